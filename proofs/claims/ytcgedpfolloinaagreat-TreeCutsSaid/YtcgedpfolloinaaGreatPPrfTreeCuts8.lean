/- What the proof of PrfTreeCuts rests on, part 8 of 12. -/
import Derived.Maps.AppendAt
import Derived.Shelf.SlicesQ.Reverse
import Derived.Test.YtcgedpfolloinaaGreatPPrfTreeCuts7
namespace Go.Proofs.YtcgedpfolloinaaGreat
open Go.RowKit

set_option maxRecDepth 100000 in
set_option maxHeartbeats 8000000 in
theorem tree_word_some (b : Nat) (F : List UInt8 → Option (Fo × List UInt8)) (l : List UInt8) (w : World) (s t0 r : List UInt8) (h : RdAt b l w) (hl : l.length ≤ 90000) (hb : beginP l = some (⟨0, s, [], 0, 0, []⟩, r)) (n : Nat) (hr : r.length ≤ n + 1) (hn : n ≤ 89000)
    (HL : ∀ t g u, F t = some (g, u) → u.length ≤ t.length)
    (HF : ∀ t W, RdAt b t W → t.length ≤ n → Calls Tryz.prog 152 #[.pointer (some ⟨b, 0, none⟩)] W fun e w' => Got b W (F t) (fun f w' v => LiesF W.heap.size w' v f) e w') (ha : r = 40 :: t0) :
    Calls Tryz.prog 165 #[.pointer (some ⟨b, 0, none⟩)] w fun e w' => Got b w (treeP F l) (TreV w.heap.size) e w' := by
  have hbw := h.lt
  have B0 := Lib.hid (begin_any b l (w.alloc zeroTree) ((Below.heap_alloc w _ b hbw).trans h) hl)
  have HB := Lib.hid hb
  have HN := Lib.hid (treeP_word (F := F) hb)
  have HS := Lib.hid (fun w1 w2 => TS.start (l := l) (r := r) (w1 := w1) (w2 := w2) ⟨0, s, [], 0, 0, []⟩ rfl hbw h)
  have HO0 : optA r = (attributesP t0).bind fun x => expP 41 x.1 x.2 := by subst ha; rfl
  have HA := Lib.hid (HN.out.trans (by rw [HO0]))
  generalize treeP F l = o at *
  clear h hb
  unfold zeroTree at B0
  go_enter Tryz.func165, Tryz.ntmps165
  go_wp2_with fail
  refine B0.out.mono ?_
  rintro e w1 hq
  obtain ⟨v, rfl, hv, hr⟩ := hq.take HB.out
  obtain rfl : v = .iface 200 (.string ⟨s.toArray⟩) := by
    rcases hv with ⟨s', h1, h2⟩ | ⟨n', d', h1, h2⟩ | ⟨s', h1, h2⟩
    · simp at h1; rw [h2, h1]
    · simp at h1
    · simp at h1
  have HR := Lib.hid hr
  clear hq hv hr
  have hm : ∀ W, (method 345 200 (.string ⟨s.toArray⟩) "withy/tree.head").run Tryz.prog W = .ok (242, .string ⟨s.toArray⟩) W := fun _ => by kernel_rfl
  have ha1 : ∀ W, (Instr.typeAssert (.iface 200 (.string ⟨s.toArray⟩)) 185 188 true).run Tryz.prog W = .ok (.tuple #[.agg #[.int .i64 0, .int .i64 0], .bool false]) W := fun _ => by kernel_rfl
  have ha2 : ∀ W, (Instr.typeAssert (.iface 200 (.string ⟨s.toArray⟩)) 185 189 true).run Tryz.prog W = .ok (.tuple #[.string ⟨#[]⟩, .bool false]) W := fun _ => by kernel_rfl
  go_wp2_with fail
  refine (word_head s _).mono ?_
  rintro e w2 ⟨rfl, hb2⟩
  unfold hdV
  have S := Lib.hid (HS.out w1 w2 HR.out hb2)
  clear hb2
  go_upto_region 3 with fail
  have q43 : w.heap.size < w2.heap.size := S.out.o3
  generalize w2.alloc _ = W at *
  generalize w2.heap.size = R4 at *
  subst ha
  have ht0 : t0.length ≤ n := by simp at hr; omega
  have ht1 : t0.length ≤ 1000000 := by omega
  have rd := Lib.hid S.out.rd.rd
  have HRR := Lib.hid (Rd.refl rd.out)
  clear HO0
  go_wp2_with fail
  refine (accept_yes b 40 t0 _ rd.out ht1).mono ?_
  rintro e wx ⟨rfl, hw⟩
  obtain rfl := hw.symm
  have S1 := Lib.hid (S.out.read (HRR.out.set t0))
  generalize W.setCell ⟨b, 0, none⟩ (.string ⟨t0.toArray⟩) = W1 at *
  clear rd HRR
  go_wp2_with fail
  refine (attributes_any b t0 _ S1.out.rd.rd (by omega)).mono ?_
  rintro e wa hq
  cases hqo : attributesP t0 with
  | none =>
    have HX := Lib.hid (HA.out.trans (by rw [hqo] <;> rfl))
    obtain ⟨rfl, t2, hr⟩ := hq.panic hqo
    have SX := Lib.hid (S1.out.read hr)
    clear hr hq hqo
    go_wp2_with fail
    exact ⟨rfl, .no HX.out SX.out.rd⟩
  | some x =>
    obtain ⟨ats, r1⟩ := x
    have HX := Lib.hid (HA.out.trans (show _ = (expP 41 ats r1).bind (fun y => (optK F y.2).map fun x => ((⟨0, s, y.1, 0, 0, []⟩, x.1), x.2)) by rw [hqo] <;> rfl))
    have hral := attributesP_len hqo
    obtain ⟨v, rfl, hv, hr⟩ := hq.take hqo
    have S2 := Lib.hid (S1.out.read hr)
    obtain ⟨aa, ca, rfl⟩ := attrsF_form hv
    have SG := Lib.hid (S2.out.attrs (attrsF_mono S1.out.lt hv))
    have d2 : ∃ z, wa.cell? ⟨R4, 2, none⟩ = some z := ⟨_, cell_of_block S2.out.k4 rfl⟩
    obtain ⟨z2, d2⟩ := d2
    have e2 := frozen_of_block (o := 2) S2.out.k4
    clear hr hq hqo hv
    go_wp2_with fail
    generalize wa.setCell ⟨R4, 2, none⟩ (.slice aa ats.length ca) = Wa at *
    clear d2 e2
    by_cases hx : r1.head? = some 41
    · obtain ⟨rr, rfl⟩ : ∃ t3, r1 = 41 :: t3 := by
        cases r1 with
        | nil => cases hx
        | cons c t => exact ⟨t, by rw [show c = 41 by simpa using hx]⟩
      have hrr : rr.length ≤ n + 1 := by simp at hral; omega
      have ht3 : rr.length ≤ 1000000 := by omega
      have HOL := Lib.hid (HX.out.trans (show _ = (optK F rr).map (fun x => ((⟨0, s, ats, 0, 0, []⟩, x.1), x.2)) from rfl))
      have rd := Lib.hid SG.out.rd.rd
      have HRR := Lib.hid (Rd.refl rd.out)
      clear hx
      refine (expect_yes b 41 rr _ rd.out ht3).mono ?_
      rintro e wx ⟨rfl, hw⟩
      obtain rfl := hw.symm
      have SA := Lib.hid (SG.out.read (HRR.out.set rr))
      generalize Wa.setCell ⟨b, 0, none⟩ (.string ⟨rr.toArray⟩) = Wb at *
      clear rd HRR
      by_cases hk : rr.head? = some 123
      · obtain ⟨t, rfl⟩ : ∃ t, rr = 123 :: t := by
          cases rr with
          | nil => cases hk
          | cons c t => exact ⟨t, by rw [show c = 123 by simpa using hk]⟩
        have htl : t.length ≤ n := by simp at hrr; omega
        have htl2 : t.length ≤ 1000000 := by omega
        have HK := Lib.hid (HOL.out.trans (show (optK F (123 :: t)).map _ = ((F t).bind fun x => expP 125 x.1 x.2).map (fun x => ((⟨0, s, ats, 0, 0, []⟩, x.1), x.2)) from rfl))
        have rd := Lib.hid SA.out.rd.rd
        have HRR := Lib.hid (Rd.refl rd.out)
        clear hk
        go_wp2_with fail
        refine (accept_yes b 123 t _ rd.out htl2).mono ?_
        rintro e wk ⟨rfl, hw⟩
        obtain rfl := hw.symm
        have Sk := Lib.hid (SA.out.read (HRR.out.set t))
        generalize Wb.setCell ⟨b, 0, none⟩ (.string ⟨t.toArray⟩) = Wk at *
        clear rd HRR
        go_wp2_with fail
        refine (HF t _ Sk.out.rd.rd htl).mono ?_
        rintro e wf hq
        cases hqo : F t with
        | none =>
          have HX := Lib.hid (HK.out.trans (by rw [hqo] <;> rfl))
          obtain ⟨rfl, t2, hr⟩ := hq.panic hqo
          have SX := Lib.hid (Sk.out.read hr)
          clear hr hq hqo
          go_wp2_with fail
          exact ⟨rfl, .no HX.out SX.out.rd⟩
        | some x =>
          obtain ⟨g, r2⟩ := x
          have FTX := Lib.hid hqo
          obtain ⟨v, rfl, hv, hr⟩ := hq.take hqo
          have HX := Lib.hid (HK.out.trans (show _ = (expP 125 g r2).map (fun x => ((⟨0, s, ats, 0, 0, []⟩, x.1), x.2)) by rw [hqo] <;> rfl))
          have Sf := Lib.hid (Sk.out.read hr)
          obtain ⟨ak, ck, rfl⟩ := liesF_form hv
          have SG := Lib.hid (Sf.out.kids (liesF_mono Sk.out.lt hv))
          have d6 : ∃ z, wf.cell? ⟨R4, 6, none⟩ = some z := ⟨_, cell_of_block Sf.out.k4 rfl⟩
          obtain ⟨z6, d6⟩ := d6
          have e6 := frozen_of_block (o := 6) Sf.out.k4
          clear hr hq hqo hv
          go_wp2_with fail
          generalize wf.setCell ⟨R4, 6, none⟩ (.slice ak g.len ck) = Wg at *
          clear d6 e6
          by_cases hx : r2.head? = some 125
          · obtain ⟨t3, rfl⟩ : ∃ t3, r2 = 125 :: t3 := by
              cases r2 with
              | nil => cases hx
              | cons c t => exact ⟨t, by rw [show c = 125 by simpa using hx]⟩
            have ht3 : t3.length ≤ 1000000 := by have := HL t _ _ (FTX.out); simp at this; omega
            have HY := Lib.hid (HX.out.trans (show _ = some ((⟨0, s, ats, 0, 0, []⟩, g), t3) from rfl))
            have rd := Lib.hid SG.out.rd.rd
            have HRR := Lib.hid (Rd.refl rd.out)
            clear hx
            refine (expect_yes b 125 t3 _ rd.out ht3).mono ?_
            rintro e wx ⟨rfl, hw⟩
            obtain rfl := hw.symm
            have SZ := Lib.hid (SG.out.read (HRR.out.set t3))
            generalize Wg.setCell ⟨b, 0, none⟩ (.string ⟨t3.toArray⟩) = Wz at *
            clear rd HRR
            have d0 : Wz.cell? ⟨R4, 0, none⟩ = some (.int .i64 0) := cell_of_block SZ.out.k4 rfl
            have d1 : Wz.cell? ⟨R4, 1, none⟩ = some (.string ⟨s.toArray⟩) := cell_of_block SZ.out.k4 rfl
            have d2 : Wz.cell? ⟨R4, 2, none⟩ = some (.slice aa ats.length ca) := cell_of_block SZ.out.k4 rfl
            have d3 : Wz.cell? ⟨R4, 3, none⟩ = some (.int .i64 0) := cell_of_block SZ.out.k4 rfl
            have d4 : Wz.cell? ⟨R4, 4, none⟩ = some (.int .i64 0) := cell_of_block SZ.out.k4 rfl
            have d5 : Wz.cell? ⟨R4, 5, none⟩ = some (.string ⟨#[]⟩) := cell_of_block SZ.out.k4 rfl
            have d6 : Wz.cell? ⟨R4, 6, none⟩ = some (.slice ak g.len ck) := cell_of_block SZ.out.k4 rfl
            have y0 : Wz.cell? ⟨w.heap.size, 0, none⟩ = some (.int .i64 0) := cell_of_block SZ.out.k2 rfl
            have y1 : Wz.cell? ⟨w.heap.size, 1, none⟩ = some (.string ⟨#[]⟩) := cell_of_block SZ.out.k2 rfl
            have y2 : Wz.cell? ⟨w.heap.size, 2, none⟩ = some (.slice none 0 0) := cell_of_block SZ.out.k2 rfl
            have y3 : Wz.cell? ⟨w.heap.size, 3, none⟩ = some (.int .i64 0) := cell_of_block SZ.out.k2 rfl
            have y4 : Wz.cell? ⟨w.heap.size, 4, none⟩ = some (.int .i64 0) := cell_of_block SZ.out.k2 rfl
            have y5 : Wz.cell? ⟨w.heap.size, 5, none⟩ = some (.string ⟨#[]⟩) := cell_of_block SZ.out.k2 rfl
            have y6 : Wz.cell? ⟨w.heap.size, 6, none⟩ = some (.slice none 0 0) := cell_of_block SZ.out.k2 rfl
            have z0 := frozen_of_block (o := 0) SZ.out.k2
            have z1 := frozen_of_block (o := 1) SZ.out.k2
            have z2 := frozen_of_block (o := 2) SZ.out.k2
            have z3 := frozen_of_block (o := 3) SZ.out.k2
            have z4 := frozen_of_block (o := 4) SZ.out.k2
            have z5 := frozen_of_block (o := 5) SZ.out.k2
            have z6 := frozen_of_block (o := 6) SZ.out.k2
            go_wp2_with fail
            have hfin := SZ.out.fin
            try rw [show Fo.nil.len = 0 from rfl] at hfin
            try rw [show ([] : List (List UInt8 × List UInt8)).length = 0 from rfl] at hfin
            generalize (((((((Wz.setCell ⟨w.heap.size, 0, none⟩ (.int .i64 0)).setCell ⟨w.heap.size, 1, none⟩ (.string ⟨s.toArray⟩)).setCell ⟨w.heap.size, 2, none⟩ (.slice aa ats.length ca)).setCell ⟨w.heap.size, 3, none⟩ (.int .i64 0)).setCell ⟨w.heap.size, 4, none⟩ (.int .i64 0)).setCell ⟨w.heap.size, 5, none⟩ (.string ⟨#[]⟩)).setCell ⟨w.heap.size, 6, none⟩ (.slice ak g.len ck)) = Wf at hfin ⊢
            obtain ⟨hrd, hbk, htv⟩ := hfin
            have u0 : Wf.cell? ⟨w.heap.size, 0, none⟩ = some (.int .i64 0) := cell_of_block hbk rfl
            have u1 : Wf.cell? ⟨w.heap.size, 1, none⟩ = some (.string ⟨s.toArray⟩) := cell_of_block hbk rfl
            have u2 : Wf.cell? ⟨w.heap.size, 2, none⟩ = some (.slice aa ats.length ca) := cell_of_block hbk rfl
            have u3 : Wf.cell? ⟨w.heap.size, 3, none⟩ = some (.int .i64 0) := cell_of_block hbk rfl
            have u4 : Wf.cell? ⟨w.heap.size, 4, none⟩ = some (.int .i64 0) := cell_of_block hbk rfl
            have u5 : Wf.cell? ⟨w.heap.size, 5, none⟩ = some (.string ⟨#[]⟩) := cell_of_block hbk rfl
            have u6 : Wf.cell? ⟨w.heap.size, 6, none⟩ = some (.slice ak g.len ck) := cell_of_block hbk rfl
            refine bodyPost_ret (v := .agg #[.int .i64 0, .string ⟨s.toArray⟩, .slice aa ats.length ca, .int .i64 0, .int .i64 0, .string ⟨#[]⟩, .slice ak g.len ck]) (by simp [results, Tryz.results165, go_sem, u0, u1, u2, u3, u4, u5, u6]) rfl ?_
            exact .yes HY.out htv hrd
          · have HY := Lib.hid (HX.out.trans (by rw [show expP 125 g r2 = none from expP_no (k := 125) hx] <;> rfl))
            have rd := Lib.hid SG.out.rd.rd
            refine (expect_no b 125 r2 _ rd.out hx).mono ?_
            rintro e wx ⟨rfl, hbx⟩
            have RX := Lib.hid (SG.out.rd.below hbx)
            clear hbx hx
            go_wp2_with fail
            exact ⟨rfl, .no HY.out RX.out⟩
      · have HY := Lib.hid (HOL.out.trans (show _ = some ((⟨0, s, ats, 0, 0, []⟩, .nil), rr) by rw [optK_no hk] <;> rfl))
        have rd := Lib.hid SA.out.rd.rd
        have AN := Lib.hid (accept_not b 123 rr _ rd.out hk)
        clear hk
        go_wp2_with fail
        refine AN.out.mono ?_
        rintro e wx ⟨rfl, hw⟩
        obtain rfl := hw.symm
        have d0 : Wb.cell? ⟨R4, 0, none⟩ = some (.int .i64 0) := cell_of_block SA.out.k4 rfl
        have d1 : Wb.cell? ⟨R4, 1, none⟩ = some (.string ⟨s.toArray⟩) := cell_of_block SA.out.k4 rfl
        have d2 : Wb.cell? ⟨R4, 2, none⟩ = some (.slice aa ats.length ca) := cell_of_block SA.out.k4 rfl
        have d3 : Wb.cell? ⟨R4, 3, none⟩ = some (.int .i64 0) := cell_of_block SA.out.k4 rfl
        have d4 : Wb.cell? ⟨R4, 4, none⟩ = some (.int .i64 0) := cell_of_block SA.out.k4 rfl
        have d5 : Wb.cell? ⟨R4, 5, none⟩ = some (.string ⟨#[]⟩) := cell_of_block SA.out.k4 rfl
        have d6 : Wb.cell? ⟨R4, 6, none⟩ = some (.slice none 0 0) := cell_of_block SA.out.k4 rfl
        have y0 : Wb.cell? ⟨w.heap.size, 0, none⟩ = some (.int .i64 0) := cell_of_block SA.out.k2 rfl
        have y1 : Wb.cell? ⟨w.heap.size, 1, none⟩ = some (.string ⟨#[]⟩) := cell_of_block SA.out.k2 rfl
        have y2 : Wb.cell? ⟨w.heap.size, 2, none⟩ = some (.slice none 0 0) := cell_of_block SA.out.k2 rfl
        have y3 : Wb.cell? ⟨w.heap.size, 3, none⟩ = some (.int .i64 0) := cell_of_block SA.out.k2 rfl
        have y4 : Wb.cell? ⟨w.heap.size, 4, none⟩ = some (.int .i64 0) := cell_of_block SA.out.k2 rfl
        have y5 : Wb.cell? ⟨w.heap.size, 5, none⟩ = some (.string ⟨#[]⟩) := cell_of_block SA.out.k2 rfl
        have y6 : Wb.cell? ⟨w.heap.size, 6, none⟩ = some (.slice none 0 0) := cell_of_block SA.out.k2 rfl
        have z0 := frozen_of_block (o := 0) SA.out.k2
        have z1 := frozen_of_block (o := 1) SA.out.k2
        have z2 := frozen_of_block (o := 2) SA.out.k2
        have z3 := frozen_of_block (o := 3) SA.out.k2
        have z4 := frozen_of_block (o := 4) SA.out.k2
        have z5 := frozen_of_block (o := 5) SA.out.k2
        have z6 := frozen_of_block (o := 6) SA.out.k2
        go_wp2_with fail
        have hfin := SA.out.fin
        try rw [show Fo.nil.len = 0 from rfl] at hfin
        try rw [show ([] : List (List UInt8 × List UInt8)).length = 0 from rfl] at hfin
        generalize (((((((Wb.setCell ⟨w.heap.size, 0, none⟩ (.int .i64 0)).setCell ⟨w.heap.size, 1, none⟩ (.string ⟨s.toArray⟩)).setCell ⟨w.heap.size, 2, none⟩ (.slice aa ats.length ca)).setCell ⟨w.heap.size, 3, none⟩ (.int .i64 0)).setCell ⟨w.heap.size, 4, none⟩ (.int .i64 0)).setCell ⟨w.heap.size, 5, none⟩ (.string ⟨#[]⟩)).setCell ⟨w.heap.size, 6, none⟩ (.slice none 0 0)) = Wf at hfin ⊢
        obtain ⟨hrd, hbk, htv⟩ := hfin
        have u0 : Wf.cell? ⟨w.heap.size, 0, none⟩ = some (.int .i64 0) := cell_of_block hbk rfl
        have u1 : Wf.cell? ⟨w.heap.size, 1, none⟩ = some (.string ⟨s.toArray⟩) := cell_of_block hbk rfl
        have u2 : Wf.cell? ⟨w.heap.size, 2, none⟩ = some (.slice aa ats.length ca) := cell_of_block hbk rfl
        have u3 : Wf.cell? ⟨w.heap.size, 3, none⟩ = some (.int .i64 0) := cell_of_block hbk rfl
        have u4 : Wf.cell? ⟨w.heap.size, 4, none⟩ = some (.int .i64 0) := cell_of_block hbk rfl
        have u5 : Wf.cell? ⟨w.heap.size, 5, none⟩ = some (.string ⟨#[]⟩) := cell_of_block hbk rfl
        have u6 : Wf.cell? ⟨w.heap.size, 6, none⟩ = some (.slice none 0 0) := cell_of_block hbk rfl
        refine bodyPost_ret (v := .agg #[.int .i64 0, .string ⟨s.toArray⟩, .slice aa ats.length ca, .int .i64 0, .int .i64 0, .string ⟨#[]⟩, .slice none 0 0]) (by simp [results, Tryz.results165, go_sem, u0, u1, u2, u3, u4, u5, u6]) rfl ?_
        exact .yes HY.out htv hrd
    · have HY := Lib.hid (HX.out.trans (by rw [show expP 41 ats r1 = none from expP_no (k := 41) hx] <;> rfl))
      have rd := Lib.hid SG.out.rd.rd
      refine (expect_no b 41 r1 _ rd.out hx).mono ?_
      rintro e wx ⟨rfl, hbx⟩
      have RX := Lib.hid (SG.out.rd.below hbx)
      clear hbx hx
      go_wp2_with fail
      exact ⟨rfl, .no HY.out RX.out⟩
end Go.Proofs.YtcgedpfolloinaaGreat

namespace Go.Proofs.YtcgedpfolloinaaGreat
open Go.RowKit

theorem parseT_nil : (parseT []).2.2 ≠ 0 := by decide
theorem beginP_len {l r : List UInt8} {h : Hd} (hb : beginP l = some (h, r)) : r.length + 1 ≤ l.length := by
  cases l with
  | nil => cases hb
  | cons c t =>
    by_cases h34 : c.toNat = 34
    · rw [show beginP (c :: t) = (quoP (c :: t)).map fun x => (⟨2, [], [], 0, 0, x.1⟩, x.2) by unfold beginP; simp [h34]] at hb
      simp only [Option.map_eq_some_iff, Prod.mk.injEq, Prod.exists] at hb
      obtain ⟨s, r', h2, _, rfl⟩ := hb
      have := quoP_len h2
      omega
    · by_cases hd : c.toNat = 45 ∨ digitB c = true
      · rw [show beginP (c :: t) = (figP (c :: t)).map fun x => (⟨1, [], [], x.1.1, x.1.2, []⟩, x.2) by unfold beginP; simp only [if_neg h34, if_pos hd]] at hb
        simp only [Option.map_eq_some_iff, Prod.mk.injEq, Prod.exists] at hb
        obtain ⟨n, d, r', h2, _, rfl⟩ := hb
        have hle := numLen_le (c :: t)
        unfold figP at h2
        by_cases h0 : numLen (c :: t) = 0
        · rw [h0, List.take_zero] at h2
          simp only [if_neg parseT_nil] at h2
          cases h2
        · simp only at h2
          by_cases h3 : (parseT ((c :: t).take (numLen (c :: t)))).2.2 = 0
          · rw [if_pos h3] at h2
            have h4 := (Prod.mk.inj (Option.some.inj h2)).2
            rw [← h4, List.length_drop]
            omega
          · rw [if_neg h3] at h2; cases h2
      · rw [show beginP (c :: t) = if wordLen (c :: t) = 0 then none else some (⟨0, (c :: t).take (wordLen (c :: t)), [], 0, 0, []⟩, (c :: t).drop (wordLen (c :: t))) by unfold beginP; simp only [if_neg h34, if_neg hd]] at hb
        have hle := wordLen_le (c :: t)
        by_cases h0 : wordLen (c :: t) = 0
        · rw [if_pos h0] at hb; cases hb
        · rw [if_neg h0] at hb
          have h4 := (Prod.mk.inj (Option.some.inj hb)).2
          rw [← h4, List.length_drop]
          omega
/-- what a head begins with is one of three. -/
theorem beginP_form {l r : List UInt8} {h : Hd} (hb : beginP l = some (h, r)) : (∃ s, h = ⟨0, s, [], 0, 0, []⟩) ∨ (∃ n d, h = ⟨1, [], [], n, d, []⟩) ∨ ∃ s, h = ⟨2, [], [], 0, 0, s⟩ := by
  cases l with
  | nil => cases hb
  | cons c t =>
    by_cases h34 : c.toNat = 34
    · rw [show beginP (c :: t) = (quoP (c :: t)).map fun x => (⟨2, [], [], 0, 0, x.1⟩, x.2) by unfold beginP; simp [h34]] at hb
      simp only [Option.map_eq_some_iff, Prod.mk.injEq, Prod.exists] at hb
      obtain ⟨s, r', _, h2, _⟩ := hb
      exact .inr (.inr ⟨s, h2.symm⟩)
    · by_cases hd : c.toNat = 45 ∨ digitB c = true
      · rw [show beginP (c :: t) = (figP (c :: t)).map fun x => (⟨1, [], [], x.1.1, x.1.2, []⟩, x.2) by unfold beginP; simp only [if_neg h34, if_pos hd]] at hb
        simp only [Option.map_eq_some_iff, Prod.mk.injEq, Prod.exists] at hb
        obtain ⟨n, d, r', _, h2, _⟩ := hb
        exact .inr (.inl ⟨n, d, h2.symm⟩)
      · rw [show beginP (c :: t) = if wordLen (c :: t) = 0 then none else some (⟨0, (c :: t).take (wordLen (c :: t)), [], 0, 0, []⟩, (c :: t).drop (wordLen (c :: t))) by unfold beginP; simp only [if_neg h34, if_neg hd]] at hb
        by_cases h0 : wordLen (c :: t) = 0
        · rw [if_pos h0] at hb; cases hb
        · rw [if_neg h0] at hb
          exact .inl ⟨_, ((Prod.mk.inj (Option.some.inj hb)).1).symm⟩
theorem expP_len {α : Type} {k : Nat} {x y : α} {l r : List UInt8} (h : expP k x l = some (y, r)) : r.length ≤ l.length := by
  cases l with
  | nil => cases h
  | cons c t =>
    rw [show expP k x (c :: t) = if c.toNat = k then some (x, t) else none from rfl] at h
    by_cases hc : c.toNat = k
    · rw [if_pos hc] at h
      have := (Prod.mk.inj (Option.some.inj h)).2
      rw [← this]; simp
    · rw [if_neg hc] at h; cases h
theorem optA_len {l r : List UInt8} {a : List (List UInt8 × List UInt8)} (h : optA l = some (a, r)) : r.length ≤ l.length := by
  by_cases hc : l.head? = some 40
  · cases l with
    | nil => cases hc
    | cons c t =>
      obtain rfl : c = 40 := by simpa using hc
      rw [show optA (40 :: t) = (attributesP t).bind fun x => expP 41 x.1 x.2 from rfl] at h
      simp only [Option.bind_eq_some_iff, Prod.exists] at h
      obtain ⟨a1, r1, h1, h2⟩ := h
      have := attributesP_len h1
      have := expP_len h2
      simp; omega
  · rw [optA_no hc] at h
    have := (Prod.mk.inj (Option.some.inj h)).2
    rw [this]; exact Nat.le_refl _
theorem optK_len {F : List UInt8 → Option (Fo × List UInt8)} (HL : ∀ t g u, F t = some (g, u) → u.length ≤ t.length) {l r : List UInt8} {g : Fo} (h : optK F l = some (g, r)) : r.length ≤ l.length := by
  by_cases hc : l.head? = some 123
  · cases l with
    | nil => cases hc
    | cons c t =>
      obtain rfl : c = 123 := by simpa using hc
      rw [show optK F (123 :: t) = (F t).bind fun x => expP 125 x.1 x.2 from rfl] at h
      simp only [Option.bind_eq_some_iff, Prod.exists] at h
      obtain ⟨a1, r1, h1, h2⟩ := h
      have := HL _ _ _ h1
      have := expP_len h2
      simp; omega
  · rw [optK_no hc] at h
    have := (Prod.mk.inj (Option.some.inj h)).2
    rw [this]; exact Nat.le_refl _
theorem treeP_len {F : List UInt8 → Option (Fo × List UInt8)} (HL : ∀ t g u, F t = some (g, u) → u.length ≤ t.length) {l r : List UInt8} {x : Hd × Fo} (h : treeP F l = some (x, r)) : r.length + 1 ≤ l.length := by
  cases hb : beginP l with
  | none => rw [treeP_none hb] at h; cases h
  | some y =>
    obtain ⟨hd, r0⟩ := y
    have hl := beginP_len hb
    rcases beginP_form hb with ⟨s, rfl⟩ | ⟨n, d, rfl⟩ | ⟨s, rfl⟩
    · rw [treeP_word hb] at h
      simp only [Option.bind_eq_some_iff, Option.map_eq_some_iff, Prod.mk.injEq, Prod.exists] at h
      obtain ⟨a, r1, h1, g, r2, h2, _, rfl⟩ := h
      have := optA_len h1
      have := optK_len HL h2
      omega
    · rw [treeP_leaf hb (by simp)] at h
      have := (Prod.mk.inj (Option.some.inj h)).2
      rw [← this]; exact hl
    · rw [treeP_leaf hb (by simp)] at h
      have := (Prod.mk.inj (Option.some.inj h)).2
      rw [← this]; exact hl

set_option maxRecDepth 100000 in
set_option maxHeartbeats 4000000 in
theorem tree_none (b : Nat) (F : List UInt8 → Option (Fo × List UInt8)) (l : List UInt8) (w : World) (h : RdAt b l w) (hl : l.length ≤ 90000) (hb : beginP l = none) :
    Calls Tryz.prog 165 #[.pointer (some ⟨b, 0, none⟩)] w fun e w' => Got b w (treeP F l) (TreV w.heap.size) e w' := by
  have hbw := h.lt
  have B0 := Lib.hid (begin_any b l (w.alloc zeroTree) ((Below.heap_alloc w _ b hbw).trans h) hl)
  have R0 := Lib.hid ((Rd.refl h).alloc zeroTree)
  have HB := Lib.hid hb
  have HN := Lib.hid (treeP_none (F := F) hb)
  generalize treeP F l = o at *
  clear h hb
  unfold zeroTree at B0
  go_enter Tryz.func165, Tryz.ntmps165
  go_wp2_with fail
  refine B0.out.mono ?_
  rintro e w1 hq
  obtain ⟨rfl, t2, hr⟩ := hq.panic HB.out
  have RX := Lib.hid (R0.out.trans hr)
  clear hq hr
  go_wp2_with fail
  exact ⟨rfl, .no HN.out RX.out⟩

theorem tree_any (b : Nat) (F : List UInt8 → Option (Fo × List UInt8)) (n : Nat) (hn : n ≤ 89000) (HL : ∀ t g u, F t = some (g, u) → u.length ≤ t.length)
    (HF : ∀ t W, RdAt b t W → t.length ≤ n → Calls Tryz.prog 152 #[.pointer (some ⟨b, 0, none⟩)] W fun e w' => Got b W (F t) (fun f w' v => LiesF W.heap.size w' v f) e w')
    (l : List UInt8) (w : World) (h : RdAt b l w) (hl : l.length ≤ n + 1) :
    Calls Tryz.prog 165 #[.pointer (some ⟨b, 0, none⟩)] w fun e w' => Got b w (treeP F l) (TreV w.heap.size) e w' := by
  cases hb : beginP l with
  | none => exact tree_none b F l w h (by omega) hb
  | some y =>
    obtain ⟨hd, r⟩ := y
    have hbl := beginP_len hb
    rcases beginP_form hb with ⟨s, rfl⟩ | ⟨m, d, rfl⟩ | ⟨s, rfl⟩
    · by_cases ha : r.head? = some 40
      · cases r with
        | nil => cases ha
        | cons c t =>
          obtain rfl : c = 40 := by simpa using ha
          exact tree_word_some b F l w s t _ h (by omega) hb n (by omega) hn HL HF rfl
      · exact tree_word_none b F l w s r h (by omega) hb n (by omega) hn HL HF ha
    · exact tree_figure b F l w m d r h (by omega) hb
    · exact tree_quoted b F l w s r h (by omega) hb
end Go.Proofs.YtcgedpfolloinaaGreat

namespace Go.Proofs.YtcgedpfolloinaaGreat
open Go.RowKit

def treeCells (h : Hd) (aa : Option Addr) (ca : Nat) (ak : Option Addr) (n ck : Nat) : List Value :=
  [.int .i64 h.k, .string ⟨h.l.toArray⟩, .slice aa h.ats.length ca, .int .i64 h.n, .int .i64 h.d, .string ⟨h.x.toArray⟩, .slice ak n ck]
/-- the cells of a row of trees. -/
def RowL (B : Nat) (W : World) : Fo → List Value → Prop
  | .nil, cs => cs = []
  | .cons h ks r, cs => ∃ aa ca ak ck rest, cs = treeCells h aa ca ak ks.len ck ++ rest ∧ AttrsF B W (.slice aa h.ats.length ca) h.ats ∧ LiesF B W (.slice ak ks.len ck) ks ∧ RowL B W r rest
theorem rowL_snoc {B : Nat} {W : World} {h : Hd} {ks : Fo} {aa : Option Addr} {ca : Nat} {ak : Option Addr} {ck : Nat} (ha : AttrsF B W (.slice aa h.ats.length ca) h.ats) (hk : LiesF B W (.slice ak ks.len ck) ks) :
    ∀ (f : Fo) (cs : List Value), RowL B W f cs → RowL B W (f.app (.cons h ks .nil)) (cs ++ treeCells h aa ca ak ks.len ck)
  | .nil, cs, H => by
    rw [show cs = [] from H]
    exact ⟨aa, ca, ak, ck, [], by simp, ha, hk, rfl⟩
  | .cons h' ks' r, cs, H => by
    obtain ⟨aa', ca', ak', ck', rest, rfl, ha', hk', hr⟩ := H
    exact ⟨aa', ca', ak', ck', _, by simp, ha', hk', rowL_snoc ha hk r rest hr⟩
theorem rowL_row {B : Nat} {W : World} {g : Nat} : ∀ (f : Fo) (cs : List Value) (o : Nat), RowL B W f cs → (∀ j u, cs[j]? = some u → W.cell? ⟨g, o + j, none⟩ = some u) → RowF B W f g o
  | .nil, _, _, _, _ => trivial
  | .cons h ks r, cs, o, H, hc => by
    obtain ⟨aa, ca, ak, ck, rest, rfl, ha, hk, hr⟩ := H
    refine ⟨⟨hc 0 _ rfl, hc 1 _ rfl, ⟨_, hc 2 _ rfl, ha⟩, hc 3 _ rfl, hc 4 _ rfl, hc 5 _ rfl⟩, ⟨_, hc 6 _ rfl, hk⟩, rowL_row r rest (o + 7) hr fun j u hj => ?_⟩
    have := hc (7 + j) u (by rw [List.getElem?_append_right (by simp [treeCells])]; simpa [treeCells] using hj)
    rw [show o + 7 + j = o + (7 + j) by omega]
    exact this
theorem app_cons (h : Hd) (ks y : Fo) : ∀ f : Fo, (f.app (.cons h ks .nil)).app y = f.app (.cons h ks y)
  | .nil => rfl
  | .cons h' ks' r => by simp only [Fo.app]; rw [app_cons h ks y r]
theorem app_len (h : Hd) (ks : Fo) : ∀ f : Fo, (f.app (.cons h ks .nil)).len = f.len + 1
  | .nil => rfl
  | .cons h' ks' r => by simp only [Fo.app, Fo.len]; rw [app_len h ks r]
theorem app_nil : ∀ f : Fo, f.app .nil = f
  | .nil => rfl
  | .cons h' ks' r => by simp only [Fo.app]; rw [app_nil r]
/-- the cells hold a row, whatever happens to the row's own block. -/
def Stab (B g : Nat) (W0 : World) (f : Fo) (cs : List Value) : Prop :=
  ∀ W : World, W0.heap.size ≤ W.heap.size → (∀ k o, B ≤ k → k < W0.heap.size → k ≠ g → W.cell? ⟨k, o, none⟩ = W0.cell? ⟨k, o, none⟩) → RowL B W f cs
theorem Stab.next {B g g' : Nat} {W0 W1 : World} {f : Fo} {cs : List Value} (h : Stab B g W0 f cs) (hs : W0.heap.size ≤ W1.heap.size) (hc : ∀ k o, B ≤ k → k < W0.heap.size → k ≠ g → W1.cell? ⟨k, o, none⟩ = W0.cell? ⟨k, o, none⟩) (hg : g' = g ∨ W0.heap.size ≤ g') :
    Stab B g' W1 f cs := fun W hW hk => h W (Nat.le_trans hs hW) fun k o h1 h2 h3 => (hk k o h1 (Nat.lt_of_lt_of_le h2 hs) (by rcases hg with rfl | hg; exact h3; omega)).trans (hc k o h1 h2 h3)
theorem restP_more {T : List UInt8 → Option ((Hd × Fo) × List UInt8)} {n : Nat} {t : List UInt8} : restP T (n + 1) (32 :: t) = (T t).bind fun y => (restP T n y.2).map fun z => (.cons y.1.1 y.1.2 z.1, z.2) := by
  rw [restP]
  simp only [show (32 : UInt8).toNat = 32 from rfl, if_true]
  cases T t with
  | none => rfl
  | some y => rfl
theorem restP_stop {T : List UInt8 → Option ((Hd × Fo) × List UInt8)} {n : Nat} {l : List UInt8} (h : l.head? ≠ some 32) : restP T n l = some (.nil, l) := by
  cases n with
  | zero => rfl
  | succ n =>
    cases l with
    | nil => rfl
    | cons c t => rw [restP, if_neg fun e => h (by rw [show c = 32 from UInt8.toNat_inj.1 (by rw [e]; rfl)]; rfl)]

theorem forestP_eq (n : Nat) (l : List UInt8) : forestP (n + 1) l = (treeP (forestP n) l).bind fun y => (restP (treeP (forestP n)) y.2.length y.2).map fun z => (.cons y.1.1 y.1.2 z.1, z.2) := by
  rw [forestP]
  cases treeP (forestP n) l with
  | none => rfl
  | some y => rfl

set_option maxRecDepth 100000 in
set_option maxHeartbeats 8000000 in
theorem forest_step (b : Nat) (T : List UInt8 → Option ((Hd × Fo) × List UInt8)) (o : Option (Fo × List UInt8)) (l : List UInt8) (w : World) (h : RdAt b l w) (hl : l.length ≤ 90000)
    (HTL : ∀ t x u, T t = some (x, u) → u.length + 1 ≤ t.length)
    (HT : ∀ t W, RdAt b t W → t.length ≤ l.length → Calls Tryz.prog 165 #[.pointer (some ⟨b, 0, none⟩)] W fun e w' => Got b W (T t) (TreV W.heap.size) e w')
    (ho : o = (T l).bind fun y => (restP T y.2.length y.2).map fun z => (.cons y.1.1 y.1.2 z.1, z.2)) :
    Calls Tryz.prog 152 #[.pointer (some ⟨b, 0, none⟩)] w fun e w' => Got b w o (fun f w' v => LiesF w.heap.size w' v f) e w' := by
  obtain ⟨i0, hi, hz0, hz1, hz2⟩ := info_parts info_tree
  have hbw := h.lt
  have A0 := Lib.hid (HT l w h (Nat.le_refl _))
  have HTT := Lib.hid HT
  have HLL := Lib.hid HTL
  have HO := Lib.hid ho
  clear h ho HT HTL
  go_enter Tryz.func152, Tryz.ntmps152
  go_wp2_with fail
  refine A0.out.mono ?_
  rintro e w1 hq
  cases ha : T l with
  | none =>
    have HN := Lib.hid (HO.out.trans (by rw [ha] <;> rfl))
    obtain ⟨rfl, t2, hr⟩ := hq.panic ha
    have HR := Lib.hid hr
    clear hr hq ha
    go_wp2_with fail
    exact ⟨rfl, .no HN.out HR.out⟩
  | some x =>
    obtain ⟨⟨hd, ks⟩, r⟩ := x
    have HX := Lib.hid (HO.out.trans (show _ = (restP T r.length r).map (fun z => ((Fo.cons hd ks .nil).app z.1, z.2)) by rw [ha] <;> rfl))
    obtain ⟨v, rfl, ⟨aa, ca, ak, ck, rfl, hfa, hfk⟩, hr⟩ := hq.take ha
    have hrl := HLL.out _ _ _ ha
    have HR := Lib.hid hr
    have HFA := Lib.hid hfa
    have HFK := Lib.hid hfk
    have hs1 := hr.bel.size
    simp only at hfa hfk
    clear hr hq ha hfa hfk
    unfold aggOf
    go_wp2_with fail
    go_loopw [3] (fun v wr => ∃ (f : Fo) (r : List UInt8) (n g cap : Nat) (cs : List Value), v = .slice (some ⟨g, 0, none⟩) f.len cap ∧ o = (restP T n r).map (fun z => (f.app z.1, z.2)) ∧ r.length ≤ n ∧ f.len + r.length ≤ l.length ∧ Rd b r w wr ∧ wr.ownsRow w.heap.size 43 7 v f.len cs ∧ Stab w.heap.size g wr f cs) (fun _ wr => match wr.cell? ⟨b, 0, none⟩ with | some (.string x) => x.size | _ => 0)
    case atStart =>
      refine ⟨.cons hd ks .nil, r, r.length, w1.heap.size, 1, treeCells hd aa ca ak ks.len ck, rfl, HX.out, Nat.le_refl _, by simp [Fo.len]; omega, HR.out.alloc _, ?_, ?_⟩
      · exact World.ownsRow_lit (e := 43) (size := 7) (base := w.heap.size) w1 #[.int .i64 hd.k, .string ⟨hd.l.toArray⟩, .slice aa hd.ats.length ca, .int .i64 hd.n, .int .i64 hd.d, .string ⟨hd.x.toArray⟩, .slice ak ks.len ck] 1 hs1 (by unfold maxLen; omega) rfl
      · intro W hW hc
        have hk : Keeps w.heap.size w1 W := ⟨by simp at hW; omega, fun k o hk hlt => (hc k o hk (by simp; omega) (by omega)).trans (World.cell?_of_block (Below.heap_alloc w1 _ k hlt))⟩
        exact ⟨aa, ca, ak, ck, [], by simp, attrsF_keeps HFA.out hk, liesF_keeps HFK.out hk, rfl⟩
    case round =>
      obtain ⟨f, r, n, g, cap, cs, rfl, hq, hrn, hlen, rr, hown, hst⟩ := hrel
      have RR := Lib.hid rr
      have HOWN := Lib.hid hown
      have HQ := Lib.hid hq
      have HST := Lib.hid hst
      have hsr := rr.bel.size
      have hgl := hown.lt g rfl
      clear rr hown hq hst
      by_cases hc : r.head? = some 32
      · obtain ⟨t, rfl⟩ : ∃ t, r = 32 :: t := by
          cases r with
          | nil => cases hc
          | cons c t => exact ⟨t, by rw [show c = 32 by simpa using hc]⟩
        obtain ⟨m, rfl⟩ : ∃ m, n = m + 1 := ⟨n - 1, by simp at hrn; omega⟩
        have hmt : t.length ≤ m := by simp at hrn; omega
        have htl : t.length ≤ l.length := by simp at hlen; omega
        have R2 := Lib.hid (RR.out.set t)
        have AA := Lib.hid (HTT.out t _ R2.out.rd htl)
        have O2 := Lib.hid (owns_rd ((Rd.refl RR.out.rd).set t) hbw HOWN.out)
        have HQ2 := Lib.hid (HQ.out.trans (by rw [restP_more]))
        have hlt : t.length ≤ 1000000 := by omega
        have hlen2 : f.len + t.length + 1 ≤ l.length := by simp at hlen; omega
        have S2 := Lib.hid (HST.out.next (W1 := wr.setCell ⟨b, 0, none⟩ (.string ⟨t.toArray⟩)) (g' := g) (by simp [World.setCell]) (fun k o hk _ _ => World.cell?_of_block (Below.heap_setCell _ _ _ _ (by show k ≠ b; omega))) (.inl rfl))
        clear hc
        go_wp2_with fail
        refine (accept_yes b 32 t _ RR.out.rd hlt).mono ?_
        rintro e w2 ⟨rfl, hw⟩
        obtain rfl := hw.symm
        have hs2 : (wr.setCell ⟨b, 0, none⟩ (.string ⟨t.toArray⟩)).heap.size = wr.heap.size := by simp [World.setCell]
        generalize wr.setCell ⟨b, 0, none⟩ (.string ⟨t.toArray⟩) = w2 at *
        go_wp2_with fail
        refine AA.out.mono ?_
        rintro e w3 hq
        cases ha : T t with
        | none =>
          have HN := Lib.hid (HQ2.out.trans (by rw [ha] <;> rfl))
          obtain ⟨rfl, t2, hr⟩ := hq.panic ha
          have HR := Lib.hid (R2.out.trans hr)
          clear hr hq ha
          go_wp2_with fail
          exact ⟨rfl, .no HN.out HR.out⟩
        | some x =>
          obtain ⟨⟨hd, ks⟩, r⟩ := x
          have HN := Lib.hid (HQ2.out.trans (show _ = (restP T m r).map (fun z => ((f.app (.cons hd ks .nil)).app z.1, z.2)) by rw [ha]; simp only [Option.bind_some]; cases restP T m r <;> simp [app_cons]))
          obtain ⟨v, rfl, ⟨aa, ca, ak, ck, rfl, hfa, hfk⟩, hr⟩ := hq.take ha
          have hal := HLL.out _ _ _ ha
          have R3 := Lib.hid (R2.out.trans hr)
          have O3 := Lib.hid (owns_rd hr hbw O2.out)
          have hs3 := hr.bel.size
          have S3 := Lib.hid (S2.out.next (W1 := w3) (g' := g) hs3 (fun k o hk hlt _ => World.cell?_of_block (hr.oth k hlt (by omega))) (.inl rfl))
          have HFA := Lib.hid hfa
          have HFK := Lib.hid hfk
          clear hr hq ha hfa hfk
          unfold aggOf
          go_wp2_with (at_builtin; refine wpList_append_own_at _ rfl _ _ 28 rfl w.heap.size 43 i0 _ 7 104 Tryz.underlying28 hi hz0 hz1 hz2 rfl (by decide) _ f.len cs rfl ((O3.out.alloc _).alloc _) ⟨w3.heap.size + 1, 0, none⟩ 1 1 (treeCells hd aa ca ak ks.len ck) rfl rfl ?c1 ?c2 ?c3 ?c4 ?c5 ?stop)
          case c1 =>
            intro j u hj
            have hnew := World.alloc_heap_new (w3.alloc (.cells #[.int .i64 hd.k, .string ⟨hd.l.toArray⟩, .slice aa hd.ats.length ca, .int .i64 hd.n, .int .i64 hd.d, .string ⟨hd.x.toArray⟩, .slice ak ks.len ck] 43)) (.cells #[.int .i64 hd.k, .string ⟨hd.l.toArray⟩, .slice aa hd.ats.length ca, .int .i64 hd.n, .int .i64 hd.d, .string ⟨hd.x.toArray⟩, .slice ak ks.len ck] 43)
            rw [show (w3.alloc (.cells #[.int .i64 hd.k, .string ⟨hd.l.toArray⟩, .slice aa hd.ats.length ca, .int .i64 hd.n, .int .i64 hd.d, .string ⟨hd.x.toArray⟩, .slice ak ks.len ck] 43)).heap.size = w3.heap.size + 1 by simp] at hnew
            rw [Go.WideShapes.add_plain]
            exact cell_of_block hnew (by simpa [treeCells] using hj)
          case c2 => intro u hu; simp [treeCells] at hu; rcases hu with rfl | rfl | rfl | rfl | rfl | rfl | rfl <;> rfl
          case c3 => unfold maxLen; omega
          case c4 => omega
          case c5 => simp; omega
          case stop =>
            intro v' w5 hown' hgrow _ hat
            obtain ⟨g', cap', rfl⟩ : ∃ g cap, v' = .slice (some ⟨g, 0, none⟩) (f.len + 1) cap := by
              rcases hown'.2 with ⟨_, h0⟩ | ⟨g, cap, cur, hv, _⟩
              · omega
              · exact ⟨g, cap, hv⟩
            have hat2 : g' = g ∨ g' = w3.heap.size + 1 + 1 := by simpa [Value.ownBlock] using hat
            have hs5 := hgrow.size
            simp at hs5
            have hcell : ∀ W : World, w5.heap.size ≤ W.heap.size → (∀ k o, w.heap.size ≤ k → k < w5.heap.size → k ≠ g' → W.cell? ⟨k, o, none⟩ = w5.cell? ⟨k, o, none⟩) → ∀ k o, w.heap.size ≤ k → k < w3.heap.size → k ≠ g → W.cell? ⟨k, o, none⟩ = w3.cell? ⟨k, o, none⟩ := by
              intro W hW hc k o h1 h2 h3
              refine (hc k o h1 (by omega) (by omega)).trans (World.cell?_of_block ?_)
              rw [hgrow.block k (by simp; omega) (by simp [Value.ownBlock]; omega), Below.heap_alloc _ _ k (by simp; omega), Below.heap_alloc _ _ k h2]
            have S5 := Lib.hid (show Stab w.heap.size g' w5 (f.app (.cons hd ks .nil)) (cs ++ treeCells hd aa ca ak ks.len ck) by
              intro W hW hc
              have hcc := hcell W hW hc
              have hk : Keeps w2.heap.size w3 W := ⟨by omega, fun k o h1 h2 => hcc k o (by omega) h2 (by omega)⟩
              exact rowL_snoc (attrsF_mono (by omega) (attrsF_keeps HFA.out hk)) (liesF_mono (by omega) (liesF_keeps HFK.out hk)) f cs (S3.out W (by omega) hcc))
            have O5 := Lib.hid (show w5.ownsRow w.heap.size 43 7 (.slice (some ⟨g', 0, none⟩) (f.len + 1) cap') (f.app (.cons hd ks .nil)).len (cs ++ treeCells hd aa ca ak ks.len ck) by
              rw [app_len]; exact hown')
            have R5 := Lib.hid (((R3.out.alloc _).alloc _).grown hbw hgrow (fun k hk => (O3.out.lt k hk).1))
            clear hown' hgrow hat hcell
            go_wp2_with fail
            go_roundw
            case rel => exact ⟨f.app (.cons hd ks .nil), r, m, g', cap', _, by rw [app_len], HN.out, by omega, by rw [app_len]; omega, R5.out, O5.out, S5.out⟩
            case measure =>
              rw [R5.out.rd.cell, RR.out.rd.cell]
              simp [ByteArray.size]
              omega
      · have HN := Lib.hid (HQ.out.trans (show _ = some (f, r) by rw [restP_stop hc]; simp [app_nil]))
        have AN := Lib.hid (accept_not b 32 r wr RR.out.rd hc)
        have HA := Lib.hid (show LiesF w.heap.size wr (.slice (some ⟨g, 0, none⟩) f.len cap) f by
          have hrow := HST.out wr (Nat.le_refl _) (fun _ _ _ _ _ => rfl)
          obtain ⟨_, h2⟩ := HOWN.out
          rcases h2 with ⟨h3, _⟩ | ⟨g1, cap1, cur, h3, hb1, hg1, hn1, hc1, _, _⟩
          · cases h3
          · cases h3
            exact .inr ⟨g, 0, cap, rfl, hn1, by omega, hb1, hgl.2, rowL_row f cs 0 hrow fun j u hj => by
              have := HOWN.out.cells (g := g) rfl j u hj
              rw [Go.WideShapes.add_plain] at this
              simpa using this⟩)
        clear hc
        go_wp2_with fail
        refine AN.out.mono ?_
        rintro e w2 ⟨rfl, hw⟩
        obtain rfl := hw.symm
        go_wp2_with fail
        go_ret
        exact .yes HN.out HA.out RR.out
theorem forestP_len : ∀ (n : Nat) (l : List UInt8) (g : Fo) (u : List UInt8), forestP n l = some (g, u) → u.length ≤ l.length
  | 0, _, _, _, h => by cases h
  | n + 1, l, g, u, h => by
    have HL := forestP_len n
    have hrest : ∀ (m : Nat) (l : List UInt8) (g : Fo) (u : List UInt8), restP (treeP (forestP n)) m l = some (g, u) → u.length ≤ l.length := by
      intro m
      induction m with
      | zero => intro l g u h; rw [restP] at h; have := (Prod.mk.inj (Option.some.inj h)).2; rw [this]; exact Nat.le_refl _
      | succ m ih =>
        intro l g u h
        by_cases hc : l.head? = some 32
        · cases l with
          | nil => cases hc
          | cons c t =>
            obtain rfl : c = 32 := by simpa using hc
            rw [restP_more] at h
            simp only [Option.bind_eq_some_iff, Option.map_eq_some_iff, Prod.mk.injEq, Prod.exists] at h
            obtain ⟨_, _, r, h1, _, _, h2, _, rfl⟩ := h
            have := treeP_len HL h1
            have := ih _ _ _ h2
            simp; omega
        · rw [restP_stop hc] at h
          have := (Prod.mk.inj (Option.some.inj h)).2
          rw [this]; exact Nat.le_refl _
    rw [forestP_eq] at h
    simp only [Option.bind_eq_some_iff, Option.map_eq_some_iff, Prod.mk.injEq, Prod.exists] at h
    obtain ⟨_, _, r, h1, _, _, h2, _, rfl⟩ := h
    have := treeP_len HL h1
    have := hrest _ _ _ _ h2
    omega
/-- a forest is read. -/
theorem forest_any (b : Nat) : ∀ (n : Nat), n ≤ 89000 → ∀ (l : List UInt8) (w : World), RdAt b l w → l.length ≤ n →
    Calls Tryz.prog 152 #[.pointer (some ⟨b, 0, none⟩)] w fun e w' => Got b w (forestP (n + 1) l) (fun f w' v => LiesF w.heap.size w' v f) e w'
  | 0, _, l, w, h, hl => by
    obtain rfl : l = [] := List.eq_nil_of_length_eq_zero (by omega)
    exact forest_step b (treeP (forestP 0)) _ [] w h (by simp) (fun t x u ht => treeP_len (forestP_len 0) ht)
      (fun t W hW ht => by
        obtain rfl : t = [] := List.eq_nil_of_length_eq_zero (by simpa using ht)
        exact tree_none b _ [] W hW (by simp) rfl) (forestP_eq _ _)
  | n + 1, hn, l, w, h, hl => by
    have IH := forest_any b n (by omega)
    exact forest_step b (treeP (forestP (n + 1))) _ l w h (by omega) (fun t x u ht => treeP_len (forestP_len (n + 1)) ht)
      (fun t W hW ht => tree_any b (forestP (n + 1)) n (by omega) (forestP_len (n + 1)) (fun t' W' h1 h2 => IH t' W' h1 h2) t W hW (by omega)) (forestP_eq _ _)
end Go.Proofs.YtcgedpfolloinaaGreat

namespace Go.Proofs.YtcgedpfolloinaaGreat
open Go.RowKit

/-- what the seven cells of a tree hold. -/
structure Tc where
  h : Hd
  aa : Option Addr
  ca : Nat
  ak : Option Addr
  n : Nat
  ck : Nat
instance : Inhabited Tc := ⟨⟨zeroHd, none, 0, none, 0, 0⟩⟩
end Go.Proofs.YtcgedpfolloinaaGreat

namespace Go.Proofs.YtcgedpfolloinaaGreat
open Go.RowKit

def cmpL : List Int → List Int → Int
  | [], [] => 0
  | [], _ :: _ => -1
  | _ :: _, [] => 1
  | a :: s, b :: t => if cmpM a b ≠ 0 then cmpM a b else cmpL s t
theorem cmpL_step {l m : List Int} {k : Nat} (hl : k < l.length) (hm : k < m.length) : cmpL (l.drop k) (m.drop k) = if cmpM (l.getD k 0) (m.getD k 0) ≠ 0 then cmpM (l.getD k 0) (m.getD k 0) else cmpL (l.drop (k + 1)) (m.drop (k + 1)) := by
  rw [List.drop_eq_getElem_cons hl, List.drop_eq_getElem_cons hm, cmpL]
  simp only [List.getD_eq_getElem?_getD, List.getElem?_eq_getElem hl, List.getElem?_eq_getElem hm, Option.getD_some]
theorem cmpL_one {l m : List Int} {k : Nat} (hl : k < l.length) (hm : m.length ≤ k) : cmpL (l.drop k) (m.drop k) = 1 := by
  rw [List.drop_eq_getElem_cons hl, List.drop_of_length_le hm, cmpL]
theorem cmpL_neg {l m : List Int} {k : Nat} (hl : l.length ≤ k) (hm : k < m.length) : cmpL (l.drop k) (m.drop k) = -1 := by
  rw [List.drop_eq_getElem_cons hm, List.drop_of_length_le hl, cmpL]
theorem cmpL_nil {l m : List Int} {k : Nat} (hl : l.length ≤ k) (hm : m.length ≤ k) : cmpL (l.drop k) (m.drop k) = 0 := by
  rw [List.drop_of_length_le hm, List.drop_of_length_le hl, cmpL]

set_option maxRecDepth 100000 in
set_option maxHeartbeats 2000000 in
theorem compareInts_any (l m : List Int) (v u : Value) (w : World) (h1 : IntsLie w v l) (h2 : IntsLie w u m) (hl : l.length ≤ 1000000) (hm : m.length ≤ 1000000) :
    Calls Tryz.prog 101 #[v, u] w fun e w' => e = .returned (.int .i64 (cmpL l m)) ∧ w = w' := by
  obtain ⟨a1, c1, rfl⟩ := ints_form h1
  obtain ⟨a2, c2, rfl⟩ := ints_form h2
  have H1 := Lib.hid h1
  have H2 := Lib.hid h2
  clear h1 h2
  go_enter Tryz.func101, Tryz.ntmps101
  go_wp2_with fail
  go_loop [11] (fun i => ∃ k : Nat, i = .int .i64 k ∧ k ≤ l.length ∧ k ≤ m.length ∧ cmpL l m = cmpL (l.drop k) (m.drop k)) (fun i => l.length - (intOf i).toNat)
  case atStart => exact ⟨0, rfl, Nat.zero_le _, Nat.zero_le _, rfl⟩
  case round =>
    obtain ⟨k, rfl, hk, hk2, he⟩ := hrel
    have HE := Lib.hid he
    clear he
    by_cases hlt : k < l.length
    · by_cases hlt2 : k < m.length
      · have d2 : decide (m.length ≤ k) = false := decide_eq_false (by omega)
        obtain ⟨b, off, cap', hs, hcap, hb, hc⟩ := ints_cells H1.out (by intro e; subst e; simp at hlt)
        simp only [Value.slice.injEq] at hs
        obtain ⟨rfl, -, rfl⟩ := hs
        obtain ⟨b', off', cap'', hs, hcap', hb', hc'⟩ := ints_cells H2.out (by intro e; subst e; simp at hlt2)
        simp only [Value.slice.injEq] at hs
        obtain ⟨rfl, -, rfl⟩ := hs
        have q1 := hc k hlt
        have q2 := hc' k hlt2
        have HS := Lib.hid (HE.out.trans (cmpL_step hlt hlt2))
        clear hc hc'
        generalize l.getD k 0 = x at *
        generalize m.getD k 0 = y at *
        have CM := Lib.hid (compare_any x y w)
        generalize cmpM x y = c at *
        by_cases hx : c = 0
        · have HX := Lib.hid (HS.out.trans (if_neg (by simpa using hx)))
          have b0 : (c != 0) = false := by simpa using hx
          clear hx
          go_wp2_with fail
          refine CM.out.mono ?_; rintro e w' ⟨rfl, rfl⟩
          go_wp2_with fail
          go_round
          case rel => exact ⟨k + 1, by go_num, by omega, by omega, HX.out⟩
          case measure => simp [intOf]; omega
        · have HX := Lib.hid (HS.out.trans (if_pos (by simpa using hx)))
          have b0 : (c != 0) = true := by simpa using hx
          clear hx
          go_wp2_with fail
          refine CM.out.mono ?_; rintro e w' ⟨rfl, rfl⟩
          go_wp2_with fail
          go_ret
          exact ⟨ret_int' HX.out.symm, rfl⟩
      · have d2 : decide (m.length ≤ k) = true := decide_eq_true (by omega)
        have HX := Lib.hid (HE.out.trans (cmpL_one hlt (by omega)))
        obtain ⟨b, off, cap', hs, hcap, hb, hc⟩ := ints_cells H1.out (by intro e; subst e; simp at hlt)
        simp only [Value.slice.injEq] at hs
        obtain ⟨rfl, -, rfl⟩ := hs
        have q1 := hc k hlt
        clear hc
        go_wp2_with fail
        go_ret
        exact ⟨ret_int' HX.out.symm, rfl⟩
    · by_cases hlt2 : k < m.length
      · have HX := Lib.hid (HE.out.trans (cmpL_neg (by omega) hlt2))
        have d2 : decide (l.length < m.length) = true := decide_eq_true (by omega)
        go_wp2_with fail
        go_ret
        exact ⟨ret_int' HX.out.symm, rfl⟩
      · have HX := Lib.hid (HE.out.trans (cmpL_nil (by omega) (by omega)))
        have d2 : decide (l.length < m.length) = false := decide_eq_false (by omega)
        go_wp2_with fail
        go_ret
        exact ⟨ret_int' HX.out.symm, rfl⟩

theorem info_int2 : (Tryz.prog.info? 3).map (fun i => (i.zero, i.size, i.bytes)) = some (some (.int .i64 0), 1, 8) := by kernel_rfl
/-- ints in no block below B. -/
def IntsF (B : Nat) (w : World) (v : Value) (l : List Int) : Prop :=
  (∃ a cap, v = .slice a 0 cap ∧ l = []) ∨ ∃ b off cap, v = .slice (some ⟨b, off, none⟩) l.length cap ∧ l.length ≤ cap ∧ B ≤ b ∧ b < w.heap.size ∧ ∀ k, k < l.length → w.cell? ⟨b, off + k, none⟩ = some (.int .i64 (l.getD k 0))
theorem intsF_lies {B : Nat} {w : World} {v : Value} {l : List Int} (h : IntsF B w v l) : IntsLie w v l := by
  rcases h with h | ⟨b, off, cap, h1, h2, h3, h4, h5⟩
  · exact .inl h
  · exact .inr ⟨b, off, cap, h1, h2, h4, h5⟩
theorem intsF_keeps {B : Nat} {w w' : World} {v : Value} {l : List Int} (h : IntsF B w v l) (k : Keeps B w w') : IntsF B w' v l := by
  rcases h with h | ⟨b, off, cap, h1, h2, h3, h4, h5⟩
  · exact .inl h
  · exact .inr ⟨b, off, cap, h1, h2, h3, Nat.lt_of_lt_of_le h4 k.1, fun i hi => (k.2 _ _ h3 h4).trans (h5 i hi)⟩
theorem intsF_form {B : Nat} {w : World} {v : Value} {l : List Int} (h : IntsF B w v l) : ∃ a cap, v = .slice a l.length cap := ints_form (intsF_lies h)
theorem intsF_owned {W : World} {base : Nat} {v : Value} {l : List Int} (h : W.ownsRow base 3 1 v l.length (l.map (Value.int .i64))) : IntsF base W v l := by
  rcases h.2 with ⟨rfl, h0⟩ | ⟨g, cap, cur, rfl, hb, hg, hn, hcap, hs, ht⟩
  · exact .inl ⟨_, _, rfl, List.eq_nil_of_length_eq_zero h0⟩
  · refine .inr ⟨g, 0, cap, rfl, hn, hb, (Array.getElem?_eq_some_iff.1 hg).1, fun k hk => ?_⟩
    have e1 : (l.map (Value.int .i64))[k]? = some (.int .i64 (l.getD k 0)) := by
      rw [List.getElem?_map, List.getD_eq_getElem?_getD, List.getElem?_eq_getElem hk]; rfl
    rw [← ht, List.getElem?_take, if_pos (by omega), Array.getElem?_toList] at e1
    rw [Nat.zero_add]
    exact cell_of_block hg e1

set_option maxRecDepth 100000 in
set_option maxHeartbeats 1000000 in
theorem cloneInts_any (v : Value) (l : List Int) (w : World) (h : IntsLie w v l) (hl : l.length ≤ 1000000) :
    Calls Tryz.prog 102 #[v] w fun e w' => ∃ v', e = .returned v' ∧ IntsF w.heap.size w' v' l ∧ Below w.heap.size w w' := by
  obtain ⟨i0, hi, hz0, hz1, hz2⟩ := info_parts info_int2
  obtain ⟨a, cap, rfl⟩ := ints_form h
  have H := Lib.hid h
  clear h
  cases a with
  | none =>
    have hl0 : l = [] := by
      rcases H.out with ⟨_, _, h1, h2⟩ | ⟨b, off, cap', h1, _⟩
      · exact h2
      · simp at h1
    subst hl0
    have hnil := fun (w : World) => Lib.run_eql_slice_nil (P := Tryz.prog) w 41 3 none 0 cap 0 0 Tryz.underlying41
    simp only [List.length_nil]
    go_enter Tryz.func102, Tryz.ntmps102
    go_wp2_with fail
    go_ret
    exact ⟨_, rfl, .inl ⟨_, _, rfl, rfl⟩, by ((repeat' (first | exact Below.refl _ _ | assumption | refine Below.setCell ?_ ?_ _ | refine bdrewN ?_ _ | refine Below.drew ?_ | refine Below.alloc ?_ ?_ _ | refine bbehind ?_ (by assumption) ?_)); all_goals first | (simp; done) | (simp; omega) | omega)⟩
  | some ad =>
    have hnil := fun (w : World) => Lib.run_eql_slice_nil (P := Tryz.prog) w 41 3 (some ad) l.length cap 0 0 Tryz.underlying41
    have hnews : ∀ j u, (l.map (Value.int .i64))[j]? = some u → (w.alloc (.cells #[] 3)).cell? (ad.add j) = some u := by
      intro j u hj
      have hjl : j < l.length := by have := (List.getElem?_eq_some_iff.1 hj).1; simpa using this
      obtain ⟨b, off, cap', hs, _, hb, hc⟩ := ints_cells H.out (by intro e; subst e; simp at hjl)
      simp only [Value.slice.injEq, Option.some.injEq] at hs
      obtain ⟨rfl, -, -⟩ := hs
      rw [World.cell?_of_block (w := w) (Below.heap_alloc _ _ _ (by rw [Go.WideShapes.add_plain]; exact hb)), Go.WideShapes.add_plain, hc j hjl, ← hj]
      rw [List.getElem?_map, List.getD_eq_getElem?_getD, List.getElem?_eq_getElem hjl]; rfl
    have hown0 : (w.alloc (.cells #[] 3)).ownsRow w.heap.size 3 1 (.slice (some ⟨w.heap.size, 0, none⟩) 0 0) 0 [] := World.ownsRow_lit w #[] 0 (Nat.le_refl _) (by decide) rfl
    have HN := Lib.hid hnews
    clear hnews
    go_enter Tryz.func102, Tryz.ntmps102
    go_wp2_with (at_builtin; refine wpList_append_own _ rfl _ _ 41 rfl w.heap.size 3 i0 (.int .i64 0) 1 8 Tryz.underlying41 hi hz0 hz1 hz2 rfl (by decide) _ _ _ rfl hown0 ad l.length cap (l.map (Value.int .i64)) rfl (by simp) HN.out ?c1 ?c2 ?c3 ?c4 ?stop)
    case c1 =>
      intro u hu
      obtain ⟨q, _, rfl⟩ := List.mem_map.1 hu
      rfl
    case c2 => unfold maxLen; omega
    case c3 => omega
    case c4 => simp
    case stop =>
      intro v' w2 hown hgrow _
      have HO := Lib.hid hown
      have HB := Lib.hid ((((Below.refl w.heap.size w).alloc (Nat.le_refl _) _)).grown hgrow (by simp) (fun k hk => by simp [Value.ownBlock] at hk; omega))
      clear hown hgrow
      go_wp2_with fail
      go_ret
      exact ⟨v', rfl, intsF_owned (by simpa using HO.out), HB.out⟩
end Go.Proofs.YtcgedpfolloinaaGreat

namespace Go.Proofs.YtcgedpfolloinaaGreat
open Go.RowKit Go.Shelf

def nextV (vs : List Vis) (p : List Int) : Option (List Int) := (vs.find? (fun x => decide (0 < cmpL (pathInts x.p) p))).map (fun x => pathInts x.p)
def nextF (f : Fo) (p : List Int) : List Int × Bool × Int :=
  if foErr f ≠ 0 then ([], false, foErr f) else if (placeF f p).isSome = false ∧ p ≠ [] then ([], false, 6) else match nextV (seqAt [] 0 f) p with
    | none => ([], false, 0)
    | some q => (q, true, 0)
def NextRes (w : World) (r : List Int × Bool × Int) (e : Ending) (w' : World) : Prop :=
  ∃ a cap, e = .returned (.tuple #[.slice a r.1.length cap, .bool r.2.1, .int .i64 r.2.2]) ∧ IntsF w.heap.size w' (.slice a r.1.length cap) r.1 ∧ Below w.heap.size w w'

/-- the four cells of its own that Next begins with. -/
structure NC (w W : World) (pv a b c : Value) : Prop where
  c0 : W.cell? ⟨w.heap.size, 0, none⟩ = some pv
  c1 : W.cell? ⟨w.heap.size + 1, 0, none⟩ = some a
  f1 : W.frozen? ⟨w.heap.size + 1, 0, none⟩ = false
  c2 : W.cell? ⟨w.heap.size + 1 + 1, 0, none⟩ = some b
  f2 : W.frozen? ⟨w.heap.size + 1 + 1, 0, none⟩ = false
  c3 : W.cell? ⟨w.heap.size + 1 + 1 + 1, 0, none⟩ = some c
  f3 : W.frozen? ⟨w.heap.size + 1 + 1 + 1, 0, none⟩ = false
  size : w.heap.size + 4 ≤ W.heap.size
  bel : Below w.heap.size w W
theorem NC.start (w : World) (pv : Value) : NC w ((((w.alloc (.cells #[pv] 41)).alloc (.cells #[.slice none 0 0] 41)).alloc (.cells #[.bool false] 4)).alloc (.cells #[.int .i64 0] 32)) pv (.slice none 0 0) (.bool false) (.int .i64 0) := by
  refine ⟨?_, ?_, ?_, ?_, ?_, ?_, ?_, by simp, ((((Below.refl _ w).alloc (Nat.le_refl _) _).alloc (by simp) _).alloc (by simp; omega) _).alloc (by simp; omega) _⟩ <;> simp [go_sem]
theorem NC.same {w W W' : World} {pv a b c : Value} (h : NC w W pv a b c) (hb : ∀ k, w.heap.size ≤ k → k < w.heap.size + 4 → W'.heap[k]? = W.heap[k]?) (hz : W.heap.size ≤ W'.heap.size) (hB : Below w.heap.size w W') : NC w W' pv a b c := by
  obtain ⟨c0, c1, f1, c2, f2, c3, f3, size, bel⟩ := h
  have b0 := hb w.heap.size (by omega) (by omega)
  have b1 := hb (w.heap.size + 1) (by omega) (by omega)
  have b2 := hb (w.heap.size + 1 + 1) (by omega) (by omega)
  have b3 := hb (w.heap.size + 1 + 1 + 1) (by omega) (by omega)
  exact ⟨(World.cell?_of_block (w := W) b0).trans c0, (World.cell?_of_block (w := W) b1).trans c1, (World.frozen?_of_block (w := W) b1).trans f1, (World.cell?_of_block (w := W) b2).trans c2, (World.frozen?_of_block (w := W) b2).trans f2,
    (World.cell?_of_block (w := W) b3).trans c3, (World.frozen?_of_block (w := W) b3).trans f3, Nat.le_trans size hz, hB⟩
theorem NC.below {w W W' : World} {pv a b c : Value} (h : NC w W pv a b c) (k : Below W.heap.size W W') : NC w W' pv a b c :=
  h.same (fun i _ hi => k.block i (by have := h.size; omega)) k.size (h.bel.trans (k.mono (by have := h.size; omega)))
theorem NC.set3 {w W : World} {pv a b c : Value} (h : NC w W pv a b c) (a' b' c' : Value) : NC w (((W.setCell ⟨w.heap.size + 1, 0, none⟩ a').setCell ⟨w.heap.size + 1 + 1, 0, none⟩ b').setCell ⟨w.heap.size + 1 + 1 + 1, 0, none⟩ c') pv a' b' c' := by
  obtain ⟨c0, c1, f1, c2, f2, c3, f3, size, bel⟩ := h
  refine ⟨?_, ?_, ?_, ?_, ?_, ?_, ?_, by simpa [World.setCell] using size, ((bel.setCell (p := ⟨w.heap.size + 1, 0, none⟩) (by show w.heap.size ≤ w.heap.size + 1; omega) _).setCell (p := ⟨w.heap.size + 1 + 1, 0, none⟩) (by show w.heap.size ≤ w.heap.size + 1 + 1; omega) _).setCell (p := ⟨w.heap.size + 1 + 1 + 1, 0, none⟩) (by show w.heap.size ≤ w.heap.size + 1 + 1 + 1; omega) _⟩ <;> simp (maxDischargeDepth := 8) [go_sem, *]

set_option maxRecDepth 100000 in
set_option maxHeartbeats 2000000 in
theorem next_err (f : Fo) (p : List Int) (v pv : Value) (w : World) (hl : Lies w v f) (hs : Small f) (hp : IntsLie w pv p) (he : foErr f ≠ 0) :
    Calls Tryz.prog 38 #[v, pv] w (NextRes w (nextF f p)) := by
  have CH := Lib.hid (fun w1 (hw : Below w.heap.size w w1) => tcheck_any f v w1 (lies_below hl hw) hs)
  obtain ⟨a, cap, rfl⟩ := lies_form hl
  obtain ⟨pa, pc, rfl⟩ := ints_form hp
  have HR := Lib.hid (show nextF f p = ([], false, foErr f) from if_pos he)
  clear hl hs hp
  generalize foErr f = er at *
  have b0 : (er != 0) = true := by simpa using he
  clear he
  have N0 := NC.start w (.slice pa p.length pc)
  go_enter Tryz.func38, Tryz.ntmps38
  go_wp2_with fail
  generalize (((w.alloc (.cells #[.slice pa p.length pc] 41)).alloc (.cells #[.slice none 0 0] 41)).alloc (.cells #[.bool false] 4)).alloc (.cells #[.int .i64 0] 32) = W0 at *
  refine (CH.out W0 N0.bel).mono ?_
  rintro e w1 ⟨rfl, hb1⟩
  have N1 := Lib.hid (N0.below hb1)
  clear N0 hb1
  obtain ⟨c0, c1, f1, c2, f2, c3, f3, size, bel⟩ := N1.out
  go_wp2_with fail
  have N2 := N1.out.set3 (.slice none 0 0) (.bool false) (.int .i64 er)
  clear c0 c1 f1 c2 f2 c3 f3 size bel
  generalize ((w1.setCell ⟨w.heap.size + 1, 0, none⟩ (.slice none 0 0)).setCell ⟨w.heap.size + 1 + 1, 0, none⟩ (.bool false)).setCell ⟨w.heap.size + 1 + 1 + 1, 0, none⟩ (.int .i64 er) = Wf at N2 ⊢
  obtain ⟨c0, c1, f1, c2, f2, c3, f3, size, bel⟩ := N2
  refine bodyPost_ret (v := .tuple #[.slice none 0 0, .bool false, .int .i64 er]) (by simp [results, Tryz.results38, go_sem, c1, c2, c3]) rfl ?_
  rw [HR.out]
  exact ⟨none, 0, rfl, .inl ⟨_, _, rfl, rfl⟩, bel⟩

set_option maxRecDepth 100000 in
set_option maxHeartbeats 2000000 in
theorem next_absent (f : Fo) (p : List Int) (v pv : Value) (w : World) (hl : Lies w v f) (hs : Small f) (hp : IntsLie w pv p) (hpl : p.length ≤ 1000000) (he : foErr f = 0) (hab : (placeF f p).isSome = false) (hp0 : p ≠ []) :
    Calls Tryz.prog 38 #[v, pv] w (NextRes w (nextF f p)) := by
  have CH := Lib.hid (fun w1 (hw : Below w.heap.size w w1) => tcheck_any f v w1 (lies_below hl hw) hs)
  have TA := Lib.hid (fun w1 (hw : Below w.heap.size w w1) => treeAt_any f p v pv w1 (lies_below hl hw) (ints_below hp hw) hpl)
  obtain ⟨a, cap, rfl⟩ := lies_form hl
  obtain ⟨pa, pc, rfl⟩ := ints_form hp
  have HR := Lib.hid (show nextF f p = ([], false, 6) from (if_neg (by simpa using he)).trans (if_pos ⟨hab, hp0⟩))
  have hpos : decide ((0 : Int) < (p.length : Int)) = true := decide_eq_true (by have := List.length_pos_iff.2 hp0; omega)
  have hpos2 : decide (0 < p.length) = true := decide_eq_true (List.length_pos_iff.2 hp0)
  rw [he] at CH
  have HAB := Lib.hid hab
  clear hl hs hp he hab hp0
  have N0 := NC.start w (.slice pa p.length pc)
  go_enter Tryz.func38, Tryz.ntmps38
  go_wp2_with fail
  generalize (((w.alloc (.cells #[.slice pa p.length pc] 41)).alloc (.cells #[.slice none 0 0] 41)).alloc (.cells #[.bool false] 4)).alloc (.cells #[.int .i64 0] 32) = W0 at *
  refine (CH.out W0 N0.bel).mono ?_
  rintro e w1 ⟨rfl, hb1⟩
  have N1 := Lib.hid (N0.below hb1)
  clear N0 hb1
  obtain ⟨c0, c1, f1, c2, f2, c3, f3, size, bel⟩ := N1.out
  go_wp2_with fail
  refine (TA.out w1 bel).mono ?_
  rintro e w2 ⟨h, ks, aa, ca, ak, ck, rfl, -, -, -, hb2⟩
  rw [HAB.out]
  unfold aggOf
  have N2 := Lib.hid (N1.out.below hb2)
  clear c0 c1 f1 c2 f2 c3 f3 size bel hb2
  obtain ⟨c0, c1, f1, c2, f2, c3, f3, size, bel⟩ := N2.out
  have z0 : w.heap.size < w2.heap.size := by omega
  have z1 : w.heap.size + 1 < w2.heap.size := by omega
  have z2 : w.heap.size + 1 + 1 < w2.heap.size := by omega
  have z3 : w.heap.size + 1 + 1 + 1 < w2.heap.size := by omega
  go_wp2_with fail
  have N3 := (N2.out.set3 (.slice none 0 0) (.bool false) (.int .i64 6)).below ((Below.refl _ _).alloc (Nat.le_refl _) (.cells #[.int .i64 h.k, .string ⟨h.l.toArray⟩, .slice aa h.ats.length ca, .int .i64 h.n, .int .i64 h.d, .string ⟨h.x.toArray⟩, .slice ak ks.len ck] 43))
  clear c0 c1 f1 c2 f2 c3 f3 size bel z0 z1 z2 z3
  generalize (((w2.setCell ⟨w.heap.size + 1, 0, none⟩ (.slice none 0 0)).setCell ⟨w.heap.size + 1 + 1, 0, none⟩ (.bool false)).setCell ⟨w.heap.size + 1 + 1 + 1, 0, none⟩ (.int .i64 6)).alloc (.cells #[.int .i64 h.k, .string ⟨h.l.toArray⟩, .slice aa h.ats.length ca, .int .i64 h.n, .int .i64 h.d, .string ⟨h.x.toArray⟩, .slice ak ks.len ck] 43) = Wf at N3 ⊢
  obtain ⟨c0, c1, f1, c2, f2, c3, f3, size, bel⟩ := N3
  refine bodyPost_ret (v := .tuple #[.slice none 0 0, .bool false, .int .i64 6]) (by simp [results, Tryz.results38, go_sem, c1, c2, c3]) rfl ?_
  rw [HR.out]
  exact ⟨none, 0, rfl, .inl ⟨_, _, rfl, rfl⟩, bel⟩

/-- what the search holds behind so many trees. -/
structure NxI (w : World) (R : Nat) (p : List Int) (pv : Value) (pre : List Vis) (G : Nat → Prop) (W : World) : Prop where
  g : ∀ k, G k ↔ k < R
  nc : NC w W pv (.slice none 0 0) (.bool false) (.int .i64 0)
  no : nextV pre p = none
  size : R ≤ W.heap.size
structure NxX (w : World) (R : Nat) (p : List Int) (pv : Value) (pre : List Vis) (W : World) : Prop where
  it : ∃ q a cap, nextV pre p = some q ∧ NC w W pv (.slice a q.length cap) (.bool true) (.int .i64 0) ∧ IntsF (w.heap.size + 4) W (.slice a q.length cap) q
  size : R ≤ W.heap.size
theorem NxI.spared {w W W' : World} {R : Nat} {p : List Int} {pv : Value} {pre : List Vis} {G : Nat → Prop} (h : NxI w R p pv pre G W) (sp : Spared G W W') (hR : w.heap.size + 4 ≤ R) : NxI w R p pv pre G W' := by
  obtain ⟨g, nc, no, size⟩ := h
  refine ⟨g, nc.same (fun k _ hk => sp.block k ((g k).2 (by omega))) sp.size (nc.bel.trans ⟨sp.os, sp.tape, sp.output, sp.size, fun k hk => sp.block k ((g k).2 (by omega))⟩), no, Nat.le_trans size sp.size⟩
theorem nextV_snoc {pre : List Vis} {x : Vis} {p : List Int} (h : nextV pre p = none) : nextV (pre ++ [x]) p = if 0 < cmpL (pathInts x.p) p then some (pathInts x.p) else none := by
  unfold nextV at h ⊢
  rw [Option.map_eq_none_iff] at h
  rw [List.find?_append, h]
  by_cases hc : 0 < cmpL (pathInts x.p) p <;> simp [hc]
theorem nextV_pre {pre xs : List Vis} {p : List Int} {q : List Int} (hp : pre <+: xs) (h : nextV pre p = some q) : nextV xs p = some q := by
  obtain ⟨t, rfl⟩ := hp
  unfold nextV at h ⊢
  rw [List.find?_append]
  cases hf : pre.find? (fun x => decide (0 < cmpL (pathInts x.p) p)) with
  | none => rw [hf] at h; cases h
  | some y => rw [hf] at h; simpa using h
theorem intsF_putObj {B : Nat} {W : World} {l : Nat} {o o' : Obj} {v : Value} {xs : List Int} (hl : W.heap[l]? = some o) (ho : o.isCells = false) (h : IntsF B W v xs) : IntsF B (W.putObj l o') v xs := by
  rcases h with h | ⟨b, off, cap, h1, h0, hB, h2, h3⟩
  · exact .inl h
  · refine .inr ⟨b, off, cap, h1, h0, hB, by simpa using h2, fun k hk => ?_⟩
    have hb : b ≠ l := by
      rintro rfl
      have := h3 k hk
      simp only [World.cell?, hl] at this
      cases o <;> simp [Obj.isCells] at ho this
    rw [World.cell?_of_block (w := W) (World.putObj_heap_other hb)]
    exact h3 k hk
theorem intsF_of {W : World} {v : Value} {xs : List Int} (h : IntsLie W v xs) : IntsF 0 W v xs := by
  rcases h with h | ⟨b, off, cap, h1, h2, h4, h5⟩
  · exact .inl h
  · exact .inr ⟨b, off, cap, h1, h2, Nat.zero_le _, h4, h5⟩
theorem intsF_mono {B B' : Nat} (hB : B' ≤ B) {W : World} {v : Value} {xs : List Int} (h : IntsF B W v xs) : IntsF B' W v xs := by
  rcases h with h | ⟨b, off, cap, h1, h2, h3, h4, h5⟩
  · exact .inl h
  · exact .inr ⟨b, off, cap, h1, h2, Nat.le_trans hB h3, h4, h5⟩
theorem path_len : ∀ {f : Fo} {pre : List Nat} {i : Nat} {x : Vis}, x ∈ seqAt pre i f → x.p.length ≤ pre.length + f.size
  | .nil, _, _, _, h => by simp [seqAt] at h
  | .cons h ks r, pre, i, x, hx => by
    simp only [seqAt, List.mem_cons, List.mem_append] at hx
    rcases hx with rfl | hx | hx
    · simp [Fo.size]
    · have := path_len hx
      simp [Fo.size] at this ⊢; omega
    · have := path_len hx
      simp [Fo.size] at this ⊢; omega
end Go.Proofs.YtcgedpfolloinaaGreat

namespace Go.Proofs.YtcgedpfolloinaaGreat
open Go.RowKit Go.Shelf
attribute [local go_sem] Oper.semAt_some

set_option maxRecDepth 100000 in
set_option maxHeartbeats 4000000 in
theorem next_in (f : Fo) (p : List Int) (v pv : Value) (w : World) (hl : Lies w v f) (hs : Small f) (hp : IntsLie w pv p) (hpl : p.length ≤ 1000000) (he : foErr f = 0) (hgo : ((placeF f p).isSome = true) ∨ p = []) :
    CallsIn Fence.wide 4 Tryz.prog 38 #[v, pv] w (NextRes w (nextF f p)) := by
  have hsz := hs.size
  have CH := Lib.hid (fun w1 (hw : Below w.heap.size w w1) => tcheck_any f v w1 (lies_below hl hw) hs)
  have TA := Lib.hid (fun w1 (hw : Below w.heap.size w w1) => treeAt_any f p v pv w1 (lies_below hl hw) (ints_below hp hw) hpl)
  have HL := Lib.hid hl
  have HP := Lib.hid hp
  obtain ⟨a, cap, rfl⟩ := lies_form hl
  obtain ⟨pa, pc, rfl⟩ := ints_form hp
  have HR := Lib.hid (show nextF f p = match nextV (seqAt [] 0 f) p with | none => ([], false, 0) | some q => (q, true, 0) from (if_neg (by simpa using he)).trans (if_neg (fun h => hgo.elim (fun h2 => by rw [h.1] at h2; cases h2) (fun h2 => h.2 h2))))
  rw [he] at CH
  clear hl hs hp he
  have N0 := NC.start w (.slice pa p.length pc)
  refine callsIn_of_wp_marks Tryz.func38 rfl trivial ?_ rfl
  simp only [Tryz.ntmps38, List.size_toArray, List.length_cons, List.length_nil, Nat.reduceAdd, Nat.reduceSub, Array.replicate_succ, Array.replicate_zero, List.push_toArray, List.append_toArray, List.nil_append, List.cons_append]
  gi_wp2_with fail
  generalize (((w.alloc (.cells #[.slice pa p.length pc] 41)).alloc (.cells #[.slice none 0 0] 41)).alloc (.cells #[.bool false] 4)).alloc (.cells #[.int .i64 0] 32) = W0 at *
  refine ⟨trivial, (callsIn_wide.2 (CH.out W0 N0.bel)).mono ?_⟩
  rintro e w1 ⟨rfl, hb1⟩
  have N1 := Lib.hid (N0.below hb1)
  clear N0 hb1
  obtain ⟨c0, c1, f1, c2, f2, c3, f3, size, bel⟩ := N1.out
  gi_wp2_with fail
  refine ⟨trivial, (callsIn_wide.2 (TA.out w1 bel)).mono ?_⟩
  rintro e w2 ⟨h, ks, aa, ca, ak, ck, rfl, -, -, -, hb2⟩
  unfold aggOf
  have N2 := Lib.hid (N1.out.below hb2)
  clear c0 c1 f1 c2 f2 c3 f3 size bel hb2
  obtain ⟨c0, c1, f1, c2, f2, c3, f3, size, bel⟩ := N2.out
  have z0 : w.heap.size < w2.heap.size := by omega
  have z1 : w.heap.size + 1 < w2.heap.size := by omega
  have z2 : w.heap.size + 1 + 1 < w2.heap.size := by omega
  have z3 : w.heap.size + 1 + 1 + 1 < w2.heap.size := by omega
  generalize hbs : (placeF f p).isSome = bs at *
  cases bs with
  | true =>
    gi_wp2_with (refine ⟨trivial, ?_⟩; gi_at_call 79; refine (trees_in _ _ _ _ _).mono ?_; rintro e w' ⟨rfl, rfl⟩)
    obtain ⟨W0, hW0⟩ : ∃ W0, (w2.alloc (.cells #[.int .i64 h.k, .string ⟨h.l.toArray⟩, .slice aa h.ats.length ca, .int .i64 h.n, .int .i64 h.d, .string ⟨h.x.toArray⟩, .slice ak ks.len ck] 43)).alloc (.cells #[.slice a f.len cap] 28) = W0 := ⟨_, rfl⟩
    have hz0 : W0.heap.size = w2.heap.size + 1 + 1 := by rw [← hW0]; simp
    have hx0 : Below w2.heap.size w2 W0 := by rw [← hW0]; exact ((Below.refl _ _).alloc (Nat.le_refl _) _).alloc (by simp) _
    have hN0 : NxI w (w2.heap.size + 1 + 1) p (.slice pa p.length pc) [] (fun k => k < w2.heap.size + 1 + 1) W0 := ⟨fun _ => Iff.rfl, N2.out.below hx0, rfl, by omega⟩
    have hB0 := hN0.nc.bel
    have hc0 : W0.cell? ⟨w2.heap.size + 1, 0, none⟩ = some (.slice a f.len cap) := by rw [← hW0]; simp [go_sem]
    rw [hW0]
    clear hW0 hx0 c0 c1 f1 c2 f2 c3 f3 bel z0 z1 z2 z3
    refine range_own (gf := 123) (lb := #[.pointer (some ⟨w2.heap.size + 1, 0, none⟩)]) rfl (enters_of Tryz.func123 (by kernel_rfl) rfl)
      (trees_seq f (.slice a f.len cap) w (w2.heap.size + 1) HL.out (by omega)) (by omega) ?st (fun x args W h => by obtain ⟨_, _, rfl, _⟩ := h; rfl)
      (NxI w (w2.heap.size + 1 + 1) p (.slice pa p.length pc)) (fun c pre W => c = .ret ∧ NxX w (w2.heap.size + 1 + 1) p (.slice pa p.length pc) pre W) (fun k => k < w2.heap.size + 1 + 1) ?hI ?hIs ?hIx (fun k hk => by omega) hN0
      (fun x a' W => ∃ (b0 : Option Addr) (c0 : Nat) (pv' tv : Value) (u0 u1 u2 u7 u8 u9 u11 u12 u13 u14 u15 u16 u17 u18 u19 u20 u21 u22 u23 u24 u25 u26 u27 u28 u29 u30 : Value), x ∈ seqAt [] 0 f ∧ IntsF 0 W (.slice b0 x.p.length c0) (pathInts x.p) ∧ a' = { tmps := #[u0, u1, u2, .pointer (some ⟨w.heap.size, 0, none⟩), .pointer (some ⟨w.heap.size + 1, 0, none⟩), .pointer (some ⟨w.heap.size + 1 + 1, 0, none⟩), .pointer (some ⟨w.heap.size + 1 + 1 + 1, 0, none⟩), u7, u8, u9, .slice b0 x.p.length c0, u11, u12, u13, u14, u15, u16, u17, u18, u19, u20, u21, u22, u23, u24, u25, u26, u27, u28, u29, u30, pv', tv, undef, undef, undef, undef, undef, undef], defers := [] })
      (fun x a' W l o o' hl ho h => by
        obtain ⟨b0, c0, pv', tv, u0, u1, u2, u7, u8, u9, u11, u12, u13, u14, u15, u16, u17, u18, u19, u20, u21, u22, u23, u24, u25, u26, u27, u28, u29, u30, h1, h2, h3⟩ := h
        exact ⟨b0, c0, pv', tv, u0, u1, u2, u7, u8, u9, u11, u12, u13, u14, u15, u16, u17, u18, u19, u20, u21, u22, u23, u24, u25, u26, u27, u28, u29, u30, h1, intsF_putObj hl ho h2, h3⟩) ?assign ?body ?done ?stop
    case st =>
      intro o
      refine ⟨hB0.trans ((((Below.refl _ W0).alloc (Nat.le_refl _) _).alloc (by simp) _).mono hB0.size), ?_⟩
      simp [go_sem, hz0, hc0]
    case hI => exact fun s G W W' h sp => h.spared sp (by omega)
    case hIs =>
      rintro s G W ⟨g, nc, no, size⟩ k hk
      have := (g k).1 hk; omega
    case hIx =>
      rintro c s W l o o' hl ho hc ⟨rfl, ⟨q, a, cap, hq, nc, hi⟩, size⟩
      exact ⟨rfl, ⟨q, a, cap, hq, nc.same (fun k _ hk => World.putObj_heap_other (by omega)) (by simp) (nc.bel.trans ⟨rfl, rfl, rfl, by simp, fun k hk => World.putObj_heap_other (by omega)⟩), intsF_putObj ho hc hi⟩, by simpa using size⟩
    case assign =>
      rintro n' l pre x args G W K hI ⟨pv', tv, rfl, hp, ht, hx⟩ hz hK
      obtain ⟨b0, c0, rfl⟩ := ints_form hp
      have hp2 := intsF_of hp
      simp only [List.length_map] at hp2 ⊢
      clear hp
      gi_wp2
      exact hK _ _ (But.refl _ _) (Below.refl _ _) hI ⟨b0, c0, _, tv, _, _, _, _, _, _, _, _, _, _, _, _, _, _, _, _, _, _, _, _, _, _, _, _, _, _, hx, hp2, rfl⟩
    case body =>
      rintro n' l pre x a' G W ⟨g, nc, no, size⟩ ⟨b0, c0, pv', tv, u0, u1, u2, u7, u8, u9, u11, u12, u13, u14, u15, u16, u17, u18, u19, u20, u21, u22, u23, u24, u25, u26, u27, u28, u29, u30, hx, hpi, rfl⟩ hz
      have hG1 : G (w.heap.size + 1) := (g _).2 (by omega)
      have hG2 : G (w.heap.size + 1 + 1) := (g _).2 (by omega)
      have hG3 : G (w.heap.size + 1 + 1 + 1) := (g _).2 (by omega)
      have HG := Lib.hid g
      have hpl2 := path_len hx
      have hxl : (pathInts x.p).length ≤ 1000000 := by simp at hpl2 ⊢; omega
      have CM := Lib.hid (compareInts_any (pathInts x.p) p _ _ W (intsF_lies hpi) (ints_below HP.out nc.bel) hxl hpl)
      have CL := Lib.hid (cloneInts_any _ (pathInts x.p) W (intsF_lies hpi) hxl)
      have HNV := Lib.hid (nextV_snoc (x := x) no)
      have NCC := Lib.hid nc
      have HXL := Lib.hid (show (pathInts x.p).length = x.p.length by simp)
      clear g no hx hpl2 hxl
      obtain ⟨c0', c1, f1, c2, f2, c3, f3, size', bel⟩ := nc
      gi_wp2_with fail
      refine ⟨trivial, fun h => (by cases h), (CallsIn.inRound l (callsIn_wide.2 CM.out)).mono ?_⟩
      rintro e w3 ⟨rfl, rfl⟩
      generalize cmpL (pathInts x.p) p = c at *
      by_cases hc : 0 < c
      · have dc : decide (0 < c) = true := by simpa using hc
        have HNX := Lib.hid (HNV.out.trans (if_pos hc))
        clear hc
        gi_wp2_with fail
        refine ⟨trivial, fun h => (by cases h), (CallsIn.inRound l (callsIn_wide.2 CL.out)).mono ?_⟩
        rintro e w4 ⟨v4, rfl, hi4, hb4⟩
        obtain ⟨a4, cap4, rfl⟩ := intsF_form hi4
        have N4 := Lib.hid (NCC.out.below hb4)
        have hs4 := hb4.size
        have HB4 := Lib.hid hb4
        have HI4 := Lib.hid hi4
        clear c0' c1 f1 c2 f2 c3 f3 size' bel hb4 hi4
        obtain ⟨c0', c1, f1, c2, f2, c3, f3, size', bel⟩ := N4.out
        gi_wp2_with fail
        have N5 := N4.out.set3 (.slice a4 x.p.length cap4) (.bool true) (.int .i64 0)
        have hkp := ((Keeps.setCell (B := w.heap.size + 4) w4 (b := w.heap.size + 1) (by omega) 0 (.slice a4 x.p.length cap4)).trans (Keeps.setCell _ (b := w.heap.size + 1 + 1) (by omega) 0 (.bool true))).trans (Keeps.setCell _ (b := w.heap.size + 1 + 1 + 1) (by omega) 0 (.int .i64 0))
        have hi5 := intsF_keeps (intsF_mono (B' := w.heap.size + 4) (by have := NCC.out.size; omega) HI4.out) hkp
        have hz5 := hkp.1
        exact ⟨(((But.of_below HB4.out).trans (But.setCell _ hG1 _)).trans (But.setCell _ hG2 _)).trans (But.setCell _ hG3 _), rfl, ⟨pathInts x.p, a4, cap4, HNX.out, by rw [HXL.out]; exact N5, hi5⟩, by omega⟩
      · have dc : decide (0 < c) = false := by simpa using hc
        have HNX := Lib.hid (HNV.out.trans (if_neg hc))
        clear hc
        gi_wp2_with fail
        exact ⟨But.refl _ _, Below.refl _ _, G, fun k hk => .inl hk, HG.out, NCC.out, HNX.out, size⟩
    case done =>
      rintro D ys G W hD rfl ⟨g, nc, no, size⟩ hK
      have NCC := Lib.hid nc
      obtain ⟨c0, c1, f1, c2, f2, c3, f3, size', bel⟩ := nc
      gi_wp2
      have HN := Lib.hid (show nextF f p = ([], false, 0) by rw [HR.out, no])
      clear c0 c1 f1 c2 f2 c3 f3 bel
      have hK2 : (((W.setCell ⟨w.heap.size + 1, 0, none⟩ (.slice none 0 0)).setCell ⟨w.heap.size + 1 + 1, 0, none⟩ (.bool false)).setCell ⟨w.heap.size + 1 + 1 + 1, 0, none⟩ (.int .i64 0)).heap[D]? = some (.deferred (some [])) := (((KeepsOthers.setCell W _ _).trans (KeepsOthers.setCell _ _ _)).trans (KeepsOthers.setCell _ _ _)).same D _ hK rfl
      refine ⟨by simp, .inl ⟨_, _, rfl, run_takeDeferred hK2, ?_⟩⟩
      have hb2 := belowK_b (w := W0) (Nat.le_refl _) _ D _ (.deferred none) (by simpa using hD) hK2 rfl rfl
      have N3 := NCC.out.set3 (.slice none 0 0) (.bool false) (.int .i64 0)
      have N4 := N3.same (fun k _ hk => hb2.block k (by omega)) hb2.size (N3.bel.trans (hb2.mono (by omega)))
      generalize (((W.setCell ⟨w.heap.size + 1, 0, none⟩ (.slice none 0 0)).setCell ⟨w.heap.size + 1 + 1, 0, none⟩ (.bool false)).setCell ⟨w.heap.size + 1 + 1 + 1, 0, none⟩ (.int .i64 0)).putObj D (.deferred none) = Wf at N4 ⊢
      obtain ⟨c0, c1, f1, c2, f2, c3, f3, size', bel⟩ := N4
      refine ⟨.tuple #[.slice none 0 0, .bool false, .int .i64 0], by simp (maxDischargeDepth := 8) [results, go_sem, Tryz.results38, c1, c2, c3], ?_⟩
      rw [HN.out]
      exact ⟨none, 0, rfl, .inl ⟨_, _, rfl, rfl⟩, bel⟩
    case stop =>
      rintro D c pre W hD hp ⟨rfl, ⟨q, aq, capq, hq, nc, hi⟩, size⟩ hK
      have HN := Lib.hid (show nextF f p = (q, true, 0) by rw [HR.out, nextV_pre hp hq])
      gi_wp2
      refine ⟨by simp, .inl ⟨_, _, rfl, run_takeDeferred hK, ?_⟩⟩
      have hb2 := belowK_b (w := W0) (Nat.le_refl _) _ D _ (.deferred none) (by simpa using hD) hK rfl rfl
      have N4 := nc.same (fun k _ hk => hb2.block k (by omega)) hb2.size (nc.bel.trans (hb2.mono (by omega)))
      have hi4 := intsF_putObj (o' := .deferred none) hK rfl hi
      generalize W.putObj D (.deferred none) = Wf at N4 hi4 ⊢
      obtain ⟨c0, c1, f1, c2, f2, c3, f3, size', bel⟩ := N4
      refine ⟨.tuple #[.slice aq q.length capq, .bool true, .int .i64 0], by simp (maxDischargeDepth := 8) [results, go_sem, Tryz.results38, c1, c2, c3], ?_⟩
      rw [HN.out]
      exact ⟨aq, capq, rfl, intsF_mono (by omega) hi4, bel⟩
  | false =>
    have hp0 : p = [] := hgo.resolve_left (by decide)
    have hpd : decide ((0 : Int) < (p.length : Int)) = false := decide_eq_false (by rw [hp0]; simp)
    have hpd2 : decide (0 < p.length) = false := decide_eq_false (by rw [hp0]; simp)
    clear hp0
    gi_wp2_with (refine ⟨trivial, ?_⟩; gi_at_call 79; refine (trees_in _ _ _ _ _).mono ?_; rintro e w' ⟨rfl, rfl⟩)
    obtain ⟨W0, hW0⟩ : ∃ W0, (w2.alloc (.cells #[.int .i64 h.k, .string ⟨h.l.toArray⟩, .slice aa h.ats.length ca, .int .i64 h.n, .int .i64 h.d, .string ⟨h.x.toArray⟩, .slice ak ks.len ck] 43)).alloc (.cells #[.slice a f.len cap] 28) = W0 := ⟨_, rfl⟩
    have hz0 : W0.heap.size = w2.heap.size + 1 + 1 := by rw [← hW0]; simp
    have hx0 : Below w2.heap.size w2 W0 := by rw [← hW0]; exact ((Below.refl _ _).alloc (Nat.le_refl _) _).alloc (by simp) _
    have hN0 : NxI w (w2.heap.size + 1 + 1) p (.slice pa p.length pc) [] (fun k => k < w2.heap.size + 1 + 1) W0 := ⟨fun _ => Iff.rfl, N2.out.below hx0, rfl, by omega⟩
    have hB0 := hN0.nc.bel
    have hc0 : W0.cell? ⟨w2.heap.size + 1, 0, none⟩ = some (.slice a f.len cap) := by rw [← hW0]; simp [go_sem]
    rw [hW0]
    clear hW0 hx0 c0 c1 f1 c2 f2 c3 f3 bel z0 z1 z2 z3
    refine range_own (gf := 123) (lb := #[.pointer (some ⟨w2.heap.size + 1, 0, none⟩)]) rfl (enters_of Tryz.func123 (by kernel_rfl) rfl)
      (trees_seq f (.slice a f.len cap) w (w2.heap.size + 1) HL.out (by omega)) (by omega) ?st (fun x args W h => by obtain ⟨_, _, rfl, _⟩ := h; rfl)
      (NxI w (w2.heap.size + 1 + 1) p (.slice pa p.length pc)) (fun c pre W => c = .ret ∧ NxX w (w2.heap.size + 1 + 1) p (.slice pa p.length pc) pre W) (fun k => k < w2.heap.size + 1 + 1) ?hI ?hIs ?hIx (fun k hk => by omega) hN0
      (fun x a' W => ∃ (b0 : Option Addr) (c0 : Nat) (pv' tv : Value) (u0 u1 u2 u7 u8 u9 u11 u12 u13 u14 u15 u16 u17 u18 u19 u20 u21 u22 u23 u24 u25 u26 u27 u28 u29 u30 : Value), x ∈ seqAt [] 0 f ∧ IntsF 0 W (.slice b0 x.p.length c0) (pathInts x.p) ∧ a' = { tmps := #[u0, u1, u2, .pointer (some ⟨w.heap.size, 0, none⟩), .pointer (some ⟨w.heap.size + 1, 0, none⟩), .pointer (some ⟨w.heap.size + 1 + 1, 0, none⟩), .pointer (some ⟨w.heap.size + 1 + 1 + 1, 0, none⟩), u7, u8, u9, .slice b0 x.p.length c0, u11, u12, u13, u14, u15, u16, u17, u18, u19, u20, u21, u22, u23, u24, u25, u26, u27, u28, u29, u30, pv', tv, undef, undef, undef, undef, undef, undef], defers := [] })
      (fun x a' W l o o' hl ho h => by
        obtain ⟨b0, c0, pv', tv, u0, u1, u2, u7, u8, u9, u11, u12, u13, u14, u15, u16, u17, u18, u19, u20, u21, u22, u23, u24, u25, u26, u27, u28, u29, u30, h1, h2, h3⟩ := h
        exact ⟨b0, c0, pv', tv, u0, u1, u2, u7, u8, u9, u11, u12, u13, u14, u15, u16, u17, u18, u19, u20, u21, u22, u23, u24, u25, u26, u27, u28, u29, u30, h1, intsF_putObj hl ho h2, h3⟩) ?assign ?body ?done ?stop
    case st =>
      intro o
      refine ⟨hB0.trans ((((Below.refl _ W0).alloc (Nat.le_refl _) _).alloc (by simp) _).mono hB0.size), ?_⟩
      simp [go_sem, hz0, hc0]
    case hI => exact fun s G W W' h sp => h.spared sp (by omega)
    case hIs =>
      rintro s G W ⟨g, nc, no, size⟩ k hk
      have := (g k).1 hk; omega
    case hIx =>
      rintro c s W l o o' hl ho hc ⟨rfl, ⟨q, a, cap, hq, nc, hi⟩, size⟩
      exact ⟨rfl, ⟨q, a, cap, hq, nc.same (fun k _ hk => World.putObj_heap_other (by omega)) (by simp) (nc.bel.trans ⟨rfl, rfl, rfl, by simp, fun k hk => World.putObj_heap_other (by omega)⟩), intsF_putObj ho hc hi⟩, by simpa using size⟩
    case assign =>
      rintro n' l pre x args G W K hI ⟨pv', tv, rfl, hp, ht, hx⟩ hz hK
      obtain ⟨b0, c0, rfl⟩ := ints_form hp
      have hp2 := intsF_of hp
      simp only [List.length_map] at hp2 ⊢
      clear hp
      gi_wp2
      exact hK _ _ (But.refl _ _) (Below.refl _ _) hI ⟨b0, c0, _, tv, _, _, _, _, _, _, _, _, _, _, _, _, _, _, _, _, _, _, _, _, _, _, _, _, _, _, hx, hp2, rfl⟩
    case body =>
      rintro n' l pre x a' G W ⟨g, nc, no, size⟩ ⟨b0, c0, pv', tv, u0, u1, u2, u7, u8, u9, u11, u12, u13, u14, u15, u16, u17, u18, u19, u20, u21, u22, u23, u24, u25, u26, u27, u28, u29, u30, hx, hpi, rfl⟩ hz
      have hG1 : G (w.heap.size + 1) := (g _).2 (by omega)
      have hG2 : G (w.heap.size + 1 + 1) := (g _).2 (by omega)
      have hG3 : G (w.heap.size + 1 + 1 + 1) := (g _).2 (by omega)
      have HG := Lib.hid g
      have hpl2 := path_len hx
      have hxl : (pathInts x.p).length ≤ 1000000 := by simp at hpl2 ⊢; omega
      have CM := Lib.hid (compareInts_any (pathInts x.p) p _ _ W (intsF_lies hpi) (ints_below HP.out nc.bel) hxl hpl)
      have CL := Lib.hid (cloneInts_any _ (pathInts x.p) W (intsF_lies hpi) hxl)
      have HNV := Lib.hid (nextV_snoc (x := x) no)
      have NCC := Lib.hid nc
      have HXL := Lib.hid (show (pathInts x.p).length = x.p.length by simp)
      clear g no hx hpl2 hxl
      obtain ⟨c0', c1, f1, c2, f2, c3, f3, size', bel⟩ := nc
      gi_wp2_with fail
      refine ⟨trivial, fun h => (by cases h), (CallsIn.inRound l (callsIn_wide.2 CM.out)).mono ?_⟩
      rintro e w3 ⟨rfl, rfl⟩
      generalize cmpL (pathInts x.p) p = c at *
      by_cases hc : 0 < c
      · have dc : decide (0 < c) = true := by simpa using hc
        have HNX := Lib.hid (HNV.out.trans (if_pos hc))
        clear hc
        gi_wp2_with fail
        refine ⟨trivial, fun h => (by cases h), (CallsIn.inRound l (callsIn_wide.2 CL.out)).mono ?_⟩
        rintro e w4 ⟨v4, rfl, hi4, hb4⟩
        obtain ⟨a4, cap4, rfl⟩ := intsF_form hi4
        have N4 := Lib.hid (NCC.out.below hb4)
        have hs4 := hb4.size
        have HB4 := Lib.hid hb4
        have HI4 := Lib.hid hi4
        clear c0' c1 f1 c2 f2 c3 f3 size' bel hb4 hi4
        obtain ⟨c0', c1, f1, c2, f2, c3, f3, size', bel⟩ := N4.out
        gi_wp2_with fail
        have N5 := N4.out.set3 (.slice a4 x.p.length cap4) (.bool true) (.int .i64 0)
        have hkp := ((Keeps.setCell (B := w.heap.size + 4) w4 (b := w.heap.size + 1) (by omega) 0 (.slice a4 x.p.length cap4)).trans (Keeps.setCell _ (b := w.heap.size + 1 + 1) (by omega) 0 (.bool true))).trans (Keeps.setCell _ (b := w.heap.size + 1 + 1 + 1) (by omega) 0 (.int .i64 0))
        have hi5 := intsF_keeps (intsF_mono (B' := w.heap.size + 4) (by have := NCC.out.size; omega) HI4.out) hkp
        have hz5 := hkp.1
        exact ⟨(((But.of_below HB4.out).trans (But.setCell _ hG1 _)).trans (But.setCell _ hG2 _)).trans (But.setCell _ hG3 _), rfl, ⟨pathInts x.p, a4, cap4, HNX.out, by rw [HXL.out]; exact N5, hi5⟩, by omega⟩
      · have dc : decide (0 < c) = false := by simpa using hc
        have HNX := Lib.hid (HNV.out.trans (if_neg hc))
        clear hc
        gi_wp2_with fail
        exact ⟨But.refl _ _, Below.refl _ _, G, fun k hk => .inl hk, HG.out, NCC.out, HNX.out, size⟩
    case done =>
      rintro D ys G W hD rfl ⟨g, nc, no, size⟩ hK
      have NCC := Lib.hid nc
      obtain ⟨c0, c1, f1, c2, f2, c3, f3, size', bel⟩ := nc
      gi_wp2
      have HN := Lib.hid (show nextF f p = ([], false, 0) by rw [HR.out, no])
      clear c0 c1 f1 c2 f2 c3 f3 bel
      have hK2 : (((W.setCell ⟨w.heap.size + 1, 0, none⟩ (.slice none 0 0)).setCell ⟨w.heap.size + 1 + 1, 0, none⟩ (.bool false)).setCell ⟨w.heap.size + 1 + 1 + 1, 0, none⟩ (.int .i64 0)).heap[D]? = some (.deferred (some [])) := (((KeepsOthers.setCell W _ _).trans (KeepsOthers.setCell _ _ _)).trans (KeepsOthers.setCell _ _ _)).same D _ hK rfl
      refine ⟨by simp, .inl ⟨_, _, rfl, run_takeDeferred hK2, ?_⟩⟩
      have hb2 := belowK_b (w := W0) (Nat.le_refl _) _ D _ (.deferred none) (by simpa using hD) hK2 rfl rfl
      have N3 := NCC.out.set3 (.slice none 0 0) (.bool false) (.int .i64 0)
      have N4 := N3.same (fun k _ hk => hb2.block k (by omega)) hb2.size (N3.bel.trans (hb2.mono (by omega)))
      generalize (((W.setCell ⟨w.heap.size + 1, 0, none⟩ (.slice none 0 0)).setCell ⟨w.heap.size + 1 + 1, 0, none⟩ (.bool false)).setCell ⟨w.heap.size + 1 + 1 + 1, 0, none⟩ (.int .i64 0)).putObj D (.deferred none) = Wf at N4 ⊢
      obtain ⟨c0, c1, f1, c2, f2, c3, f3, size', bel⟩ := N4
      refine ⟨.tuple #[.slice none 0 0, .bool false, .int .i64 0], by simp (maxDischargeDepth := 8) [results, go_sem, Tryz.results38, c1, c2, c3], ?_⟩
      rw [HN.out]
      exact ⟨none, 0, rfl, .inl ⟨_, _, rfl, rfl⟩, bel⟩
    case stop =>
      rintro D c pre W hD hp ⟨rfl, ⟨q, aq, capq, hq, nc, hi⟩, size⟩ hK
      have HN := Lib.hid (show nextF f p = (q, true, 0) by rw [HR.out, nextV_pre hp hq])
      gi_wp2
      refine ⟨by simp, .inl ⟨_, _, rfl, run_takeDeferred hK, ?_⟩⟩
      have hb2 := belowK_b (w := W0) (Nat.le_refl _) _ D _ (.deferred none) (by simpa using hD) hK rfl rfl
      have N4 := nc.same (fun k _ hk => hb2.block k (by omega)) hb2.size (nc.bel.trans (hb2.mono (by omega)))
      have hi4 := intsF_putObj (o' := .deferred none) hK rfl hi
      generalize W.putObj D (.deferred none) = Wf at N4 hi4 ⊢
      obtain ⟨c0, c1, f1, c2, f2, c3, f3, size', bel⟩ := N4
      refine ⟨.tuple #[.slice aq q.length capq, .bool true, .int .i64 0], by simp (maxDischargeDepth := 8) [results, go_sem, Tryz.results38, c1, c2, c3], ?_⟩
      rw [HN.out]
      exact ⟨aq, capq, rfl, intsF_mono (by omega) hi4, bel⟩

theorem next_any (f : Fo) (p : List Int) (v pv : Value) (w : World) (hl : Lies w v f) (hs : Small f) (hp : IntsLie w pv p) (hpl : p.length ≤ 1000000) :
    Calls Tryz.prog 38 #[v, pv] w (NextRes w (nextF f p)) := by
  by_cases he : foErr f = 0
  · by_cases h : (placeF f p).isSome = false ∧ p ≠ []
    · exact next_absent f p v pv w hl hs hp hpl he h.1 h.2
    · refine callsIn_wide.1 (next_in f p v pv w hl hs hp hpl he ?_)
      by_cases hp0 : p = []
      · exact .inr hp0
      · refine .inl ?_
        cases hq : (placeF f p).isSome with
        | true => rfl
        | false => exact absurd ⟨hq, hp0⟩ h
  · exact next_err f p v pv w hl hs hp he
end Go.Proofs.YtcgedpfolloinaaGreat

namespace Go.Proofs.YtcgedpfolloinaaGreat
open Go.RowKit Go.Shelf
attribute [local go_sem] Oper.semAt_some

theorem info_ints2 : (Tryz.prog.info? 41).map (fun i => (i.zero, i.size, i.bytes)) = some (some (.slice none 0 0), 1, 24) := by kernel_rfl
theorem path_ne : ∀ {f : Fo} {pre : List Nat} {i : Nat} {x : Vis}, x ∈ seqAt pre i f → x.p ≠ []
  | .nil, _, _, _, h => by simp [seqAt] at h
  | .cons h ks r, pre, i, x, hx => by
    simp only [seqAt, List.mem_cons, List.mem_append] at hx
    rcases hx with rfl | hx | hx
    · simp
    · exact path_ne hx
    · exact path_ne hx
inductive All2 {α β : Type} (R : α → β → Prop) : List α → List β → Prop
  | nil : All2 R [] []
  | cons {a : α} {b : β} {l : List α} {m : List β} : R a b → All2 R l m → All2 R (a :: l) (b :: m)
theorem forall2_next {α β : Type} {R S : α → β → Prop} (h : ∀ a b, R a b → S a b) : ∀ {l : List α} {m : List β}, All2 R l m → All2 S l m
  | _, _, .nil => .nil
  | _, _, .cons h1 h2 => .cons (h _ _ h1) (forall2_next h h2)
theorem owns_belowV {v w : World} {base size n : Nat} {e : TypeId} {u : Value} {xs : List Value} (ho : v.ownsRow base e size u n xs) (h : Below v.heap.size v w) : w.ownsRow base e size u n xs := by
  refine ⟨ho.1, ?_⟩
  rcases ho.2 with hn | ⟨g, cap, cur, hv, hbg, hg, rest⟩
  · exact .inl hn
  · exact .inr ⟨g, cap, cur, hv, hbg, (h.block g (Array.getElem?_eq_some_iff.1 hg).1).trans hg, rest⟩

/-- a path, and paths, in memory of their own. -/
def PathAt (B : Nat) (W : World) (p : List Nat) (c : Value) : Prop := ∃ a cp, c = .slice a p.length cp ∧ IntsF B W (.slice a p.length cp) (pathInts p)
def PathsF (B : Nat) (W : World) (v : Value) (ps : List (List Nat)) : Prop :=
  ∃ a c, v = .slice a ps.length c ∧ (ps = [] ∨ ∃ b, a = some ⟨b, 0, none⟩ ∧ ps.length ≤ c ∧ B ≤ b ∧ b < W.heap.size ∧ ∀ k, k < ps.length → ∃ c', W.cell? ⟨b, k, none⟩ = some c' ∧ PathAt B W (ps.getD k []) c')
theorem all2_get {α β : Type} {R : α → β → Prop} {d : α} : ∀ {l : List α} {m : List β}, All2 R l m → ∀ k, k < l.length → ∃ c, m[k]? = some c ∧ R (l.getD k d) c
  | _, _, .nil, k, h => by simp at h
  | _, _, .cons h1 _, 0, _ => ⟨_, rfl, h1⟩
  | _, _, .cons _ h2, k + 1, h => by
    obtain ⟨c, e, hr⟩ := all2_get (d := d) h2 k (by simpa using h)
    exact ⟨c, by simpa using e, by simpa using hr⟩
end Go.Proofs.YtcgedpfolloinaaGreat

namespace Go.Proofs.YtcgedpfolloinaaGreat
open Go.RowKit Go.Shelf

theorem PathAt.mono {B B' : Nat} (h : B' ≤ B) {W : World} {p : List Nat} {c : Value} (k : PathAt B W p c) : PathAt B' W p c := by
  obtain ⟨a, cp, e, i⟩ := k
  exact ⟨a, cp, e, intsF_mono h i⟩
theorem PathAt.keeps {B : Nat} {W W' : World} {p : List Nat} {c : Value} (h : PathAt B W p c) (k : Keeps B W W') : PathAt B W' p c := by
  obtain ⟨a, cp, e, i⟩ := h
  exact ⟨a, cp, e, intsF_keeps i k⟩
theorem PathsF.mono {B B' : Nat} (h : B' ≤ B) {W : World} {v : Value} {ps : List (List Nat)} (k : PathsF B W v ps) : PathsF B' W v ps := by
  obtain ⟨a, c, e, i⟩ := k
  refine ⟨a, c, e, ?_⟩
  rcases i with i | ⟨b, e1, e2, e3, e4, e5⟩
  · exact .inl i
  · exact .inr ⟨b, e1, e2, by omega, e4, fun k hk => by obtain ⟨c', h1, h2⟩ := e5 k hk; exact ⟨c', h1, h2.mono h⟩⟩
theorem PathsF.keeps {B : Nat} {W W' : World} {v : Value} {ps : List (List Nat)} (h : PathsF B W v ps) (k : Keeps B W W') : PathsF B W' v ps := by
  obtain ⟨a, c, e, i⟩ := h
  refine ⟨a, c, e, ?_⟩
  rcases i with i | ⟨b, e1, e2, e3, e4, e5⟩
  · exact .inl i
  · exact .inr ⟨b, e1, e2, e3, Nat.lt_of_lt_of_le e4 k.1, fun j hj => by obtain ⟨c', h1, h2⟩ := e5 j hj; exact ⟨c', (k.2 _ _ e3 e4).trans h1, h2.keeps k⟩⟩
theorem PathsF.nil (B : Nat) (W : World) : PathsF B W (.slice none 0 0) [] := ⟨none, 0, rfl, .inl rfl⟩

end Go.Proofs.YtcgedpfolloinaaGreat

namespace Go.Proofs.YtcgedpfolloinaaGreat
open Go.RowKit

set_option maxRecDepth 100000 in
/-- the deferred function of 'read', where the panic 'unexpected' goes through it. -/
theorem catch_unexpected (a b : Nat) (x y : Value) (older : List PanicEntry) (w : World) (hc : w.cell? ⟨a, 0, none⟩ = some x) (hz : w.frozen? ⟨a, 0, none⟩ = false) (hd : w.cell? ⟨b, 0, none⟩ = some y) (hy : w.frozen? ⟨b, 0, none⟩ = false) (hab : a < b) :
    CallsD Tryz.prog 151 #[.pointer (some ⟨a, 0, none⟩), .pointer (some ⟨b, 0, none⟩)] (.panicking ({ v := .iface 160 (.agg #[]), recovered := false } :: older)) w fun e u' w' =>
      e = .returned (.tuple #[]) ∧ u' = .panicking ({ v := .iface 160 (.agg #[]), recovered := true } :: older) ∧ w' = (w.setCell ⟨a, 0, none⟩ (.slice none 0 0)).setCell ⟨b, 0, none⟩ (.bool false) := by
  have hne : ∀ w, (binOp .neq 20 (.iface 160 (.agg #[])) .nilIface).run Tryz.prog w = .ok (.bool true) w := fun _ => by kernel_rfl
  have n1 : ¬ a = b := by omega
  have n2 : ¬ b = a := by omega
  refine callsD_of_wpS Tryz.func151 rfl fun c₀ cs hu => ?_
  apply wpS_seq
  apply wpS_region
  simp [wpOpsS, go_sem, recoverD, hu, Tryz.ntmps151, Exit.thenS]
  refine wpS_of_wp ?_
  clear hu
  change Code.wp _ _ _ { tmps := #[.pointer (some ⟨a, 0, none⟩), .pointer (some ⟨b, 0, none⟩), .iface 160 (.agg #[]), .bool true], defers := [] } _
  go_wp2
  simp [bodyPostS, results, Tryz.results151]

theorem catch_nothing (p q : Addr) (w : World) :
    CallsD Tryz.prog 151 #[.pointer (some p), .pointer (some q)] .returning w fun e u' w' => e = .returned (.tuple #[]) ∧ u' = .returning ∧ w' = w := by
  have hne : ∀ w, (binOp .neq 20 .nilIface .nilIface).run Tryz.prog w = .ok (.bool false) w := fun _ => by kernel_rfl
  refine callsD_of_wpS Tryz.func151 rfl fun c₀ cs hu => ?_
  apply wpS_seq
  apply wpS_region
  simp [wpOpsS, go_sem, recoverD, hu, Tryz.ntmps151, Exit.thenS]
  refine wpS_of_wp ?_
  change Code.wp _ _ _ { tmps := #[.pointer (some p), .pointer (some q), .nilIface, .bool false], defers := [] } _
  go_wp2
  cases c₀
  simp_all [bodyPostS, results, Tryz.results151]

/-- what reading a text gives. -/
def ReadRes (w : World) (o : Option Fo) (e : Ending) (w' : World) : Prop :=
  match o with
  | some f => ∃ v, e = .returned (.tuple #[v, .bool true]) ∧ LiesF w.heap.size w' v f ∧ Below w.heap.size w w'
  | none => e = .returned (.tuple #[.slice none 0 0, .bool false]) ∧ Below w.heap.size w w'

set_option maxRecDepth 100000 in
set_option maxHeartbeats 4000000 in
theorem read_any (l : List UInt8) (w : World) (hl : l.length ≤ 89000) :
    Calls Tryz.prog 114 #[.string ⟨l.toArray⟩] w fun e w' => ReadRes w (readP l) e w' := by
  have hmf : ∀ (fn : Fn) (first cap : Array Value) (w : World), (Instr.makeFunc fn first cap).run Tryz.prog w = .ok (.func fn first cap) w := fun _ _ _ _ => rfl
  cases l with
  | nil =>
    have HO := Lib.hid (show readP [] = some .nil from rfl)
    generalize readP [] = o at *
    go_enter_defers Tryz.func114, Tryz.ntmps114
    go_wp2_with fail
    refine leaves_cons (f := 151) (args := #[.pointer (some ⟨w.heap.size, 0, none⟩), .pointer (some ⟨w.heap.size + 1, 0, none⟩)]) (by simp) (by simp [go_sem]) ?_
    refine (catch_nothing ⟨w.heap.size, 0, none⟩ ⟨w.heap.size + 1, 0, none⟩ _).mono ?_
    rintro e u' w'' ⟨rfl, rfl, rfl⟩
    simp (maxDischargeDepth := 8) [Leaves, settle, results, Tryz.results114, go_sem]
    rw [HO.out]
    exact ⟨_, rfl, .inl ⟨_, _, rfl, rfl⟩, by ((repeat' (first | exact Below.refl _ _ | assumption | refine Below.setCell ?_ ?_ _ | refine bdrewN ?_ _ | refine Below.drew ?_ | refine Below.alloc ?_ ?_ _ | refine bbehind ?_ (by assumption) ?_)); all_goals first | (simp; done) | (simp; omega) | omega)⟩
  | cons c t =>
    have hie : (c :: t).isEmpty = false := rfl
    obtain ⟨l, hcl⟩ : ∃ l, c :: t = l := ⟨_, rfl⟩
    have HO := Lib.hid (show readP (c :: t) = (forestP (l.length + 1) l).bind (fun x => match x.2 with | [] => some x.1 | _ => none) by
      rw [← hcl]
      unfold readP
      simp only
      cases forestP ((c :: t).length + 1) (c :: t) with
      | none => rfl
      | some x =>
        obtain ⟨f, r⟩ := x
        cases r <;> rfl)
    rw [hcl] at hl hie ⊢
    rw [hcl] at HO
    generalize readP l = o at *
    clear hcl
    have FA := Lib.hid (fun W (h : RdAt (w.heap.size + 1 + 1) l W) => forest_any (w.heap.size + 1 + 1) l.length (by omega) l W h (Nat.le_refl _))
    go_enter_defers Tryz.func114, Tryz.ntmps114
    go_wp2_with fail
    have w3rd : RdAt (w.heap.size + 1 + 1) l (((w.alloc (.cells #[.slice none 0 0] 28)).alloc (.cells #[.bool false] 4)).alloc (.cells #[.string ⟨l.toArray⟩] 158)) := by
      have := World.alloc_heap_new ((w.alloc (.cells #[.slice none 0 0] 28)).alloc (.cells #[.bool false] 4)) (.cells #[.string ⟨l.toArray⟩] 158)
      simpa [RdAt] using this
    refine (FA.out _ w3rd).mono ?_
    have k0 : (((w.alloc (.cells #[.slice none 0 0] 28)).alloc (.cells #[.bool false] 4)).alloc (.cells #[.string ⟨l.toArray⟩] 158)).heap[w.heap.size]? = some (.cells #[.slice none 0 0] 28 (0, 0)) := by
      rw [Below.heap_alloc _ _ _ (by simp; omega), Below.heap_alloc _ _ _ (by simp)]; exact World.alloc_heap_new _ _
    have k1 : (((w.alloc (.cells #[.slice none 0 0] 28)).alloc (.cells #[.bool false] 4)).alloc (.cells #[.string ⟨l.toArray⟩] 158)).heap[w.heap.size + 1]? = some (.cells #[.bool false] 4 (0, 0)) := by
      rw [Below.heap_alloc _ _ _ (by simp)]
      have := World.alloc_heap_new (w.alloc (.cells #[.slice none 0 0] 28)) (.cells #[.bool false] 4)
      simpa using this
    have B3 : Below w.heap.size w (((w.alloc (.cells #[.slice none 0 0] 28)).alloc (.cells #[.bool false] 4)).alloc (.cells #[.string ⟨l.toArray⟩] 158)) := by ((repeat' (first | exact Below.refl _ _ | assumption | refine Below.setCell ?_ ?_ _ | refine bdrewN ?_ _ | refine Below.drew ?_ | refine Below.alloc ?_ ?_ _ | refine bbehind ?_ (by assumption) ?_)); all_goals first | (simp; done) | (simp; omega) | omega)
    have hs3 : (((w.alloc (.cells #[.slice none 0 0] 28)).alloc (.cells #[.bool false] 4)).alloc (.cells #[.string ⟨l.toArray⟩] 158)).heap.size = w.heap.size + 3 := by simp
    generalize ((w.alloc (.cells #[.slice none 0 0] 28)).alloc (.cells #[.bool false] 4)).alloc (.cells #[.string ⟨l.toArray⟩] 158) = w3 at *
    rintro e w4 hq
    have facts : ∀ r, Rd (w.heap.size + 1 + 1) r w3 w4 → w4.cell? ⟨w.heap.size, 0, none⟩ = some (.slice none 0 0) ∧ w4.frozen? ⟨w.heap.size, 0, none⟩ = false ∧ w4.cell? ⟨w.heap.size + 1, 0, none⟩ = some (.bool false) ∧ w4.frozen? ⟨w.heap.size + 1, 0, none⟩ = false ∧ Below w.heap.size w w4 := by
      intro r hr
      have j0 := (hr.oth w.heap.size (by omega) (by omega)).trans k0
      have j1 := (hr.oth (w.heap.size + 1) (by omega) (by omega)).trans k1
      exact ⟨cell_of_block j0 rfl, frozen_of_block j0, cell_of_block j1 rfl, frozen_of_block j1, B3.trans (hr.bel.mono (by omega))⟩
    cases hqo : forestP (l.length + 1) l with
    | none =>
      have HX := Lib.hid (HO.out.trans (by rw [hqo] <;> rfl))
      obtain ⟨rfl, t2, hr⟩ := hq.panic hqo
      obtain ⟨c0, f0, c1, f1, B4⟩ := facts _ hr
      clear hq hqo facts hr w3rd
      have hlt : w.heap.size < w.heap.size + 1 := by omega
      go_wp2_with fail
      refine leaves_cons (f := 151) (args := #[.pointer (some ⟨w.heap.size, 0, none⟩), .pointer (some ⟨w.heap.size + 1, 0, none⟩)]) (by simp) (by simp [go_sem]) ?_
      refine (catch_unexpected w.heap.size (w.heap.size + 1) _ _ _ _ c0 f0 c1 f1 hlt).mono ?_
      rintro e u' w'' ⟨rfl, rfl, rfl⟩
      simp (maxDischargeDepth := 8) [Leaves, settle, results, Tryz.results114, go_sem, c0, c1]
      rw [HX.out]
      exact ⟨rfl, (B4.setCell (p := ⟨w.heap.size, 0, none⟩) (Nat.le_refl _) _).setCell (p := ⟨w.heap.size + 1, 0, none⟩) (Nat.le_succ _) _⟩
    | some x =>
      obtain ⟨f, r⟩ := x
      obtain ⟨v, rfl, hv, hr⟩ := hq.take hqo
      have rd := hr.rd.cell
      have fd := hr.rd.frozen
      obtain ⟨c0, f0, c1, f1, B4⟩ := facts _ hr
      have hlt : w.heap.size < w.heap.size + 1 := by omega
      have HV := Lib.hid hv
      have hs4 := hr.bel.size
      cases r with
      | nil =>
        have HX := Lib.hid (HO.out.trans (show _ = some f by rw [hqo] <;> rfl))
        clear hq hqo facts hr w3rd hv
        obtain ⟨aa, cap, rfl⟩ := liesF_form HV.out
        go_wp2_with fail
        refine leaves_cons (f := 151) (args := #[.pointer (some ⟨w.heap.size, 0, none⟩), .pointer (some ⟨w.heap.size + 1, 0, none⟩)]) (by simp) (by simp [go_sem]) ?_
        refine (catch_nothing ⟨w.heap.size, 0, none⟩ ⟨w.heap.size + 1, 0, none⟩ _).mono ?_
        rintro e u' w'' ⟨rfl, rfl, rfl⟩
        simp (maxDischargeDepth := 8) [Leaves, settle, results, Tryz.results114, go_sem, c0, c1]
        rw [HX.out]
        have hk : Keeps w3.heap.size w4 (((w4.setCell ⟨w.heap.size, 0, none⟩ (.slice aa f.len cap)).setCell ⟨w.heap.size, 0, none⟩ (.slice aa f.len cap)).setCell ⟨w.heap.size + 1, 0, none⟩ (.bool true)) :=
          ((Keeps.setCell _ (by omega) _ _).trans (Keeps.setCell _ (by omega) _ _)).trans (Keeps.setCell _ (by omega) _ _)
        exact ⟨_, rfl, liesF_mono (by omega) (liesF_keeps HV.out hk), ((B4.setCell (p := ⟨w.heap.size, 0, none⟩) (Nat.le_refl _) _).setCell (p := ⟨w.heap.size, 0, none⟩) (Nat.le_refl _) _).setCell (p := ⟨w.heap.size + 1, 0, none⟩) (Nat.le_succ _) _⟩
      | cons c t =>
        have HX := Lib.hid (HO.out.trans (show _ = none by rw [hqo] <;> rfl))
        clear hq hqo facts hr w3rd hv
        obtain ⟨aa, cap, rfl⟩ := liesF_form HV.out
        clear HV
        have hie2 : (c :: t).isEmpty = false := rfl
        go_wp2_with fail
        refine leaves_cons (f := 151) (args := #[.pointer (some ⟨w.heap.size, 0, none⟩), .pointer (some ⟨w.heap.size + 1, 0, none⟩)]) (by simp) (by simp [go_sem]) ?_
        refine (catch_unexpected w.heap.size (w.heap.size + 1) (.slice aa f.len cap) (.bool false) _ _ (by simp [go_sem, c0]) (by simp [go_sem, f0]) (by simp [go_sem, c1]) (by simp [go_sem, f1]) hlt).mono ?_
        rintro e u' w'' ⟨rfl, rfl, rfl⟩
        simp (maxDischargeDepth := 8) [Leaves, settle, results, Tryz.results114, go_sem, c0, c1]
        rw [HX.out]
        exact ⟨rfl, by ((repeat' (first | exact Below.refl _ _ | assumption | refine Below.setCell ?_ ?_ _ | refine bdrewN ?_ _ | refine Below.drew ?_ | refine Below.alloc ?_ ?_ _ | refine bbehind ?_ (by assumption) ?_)); all_goals first | (simp; done) | (simp; omega) | omega)⟩
end Go.Proofs.YtcgedpfolloinaaGreat
