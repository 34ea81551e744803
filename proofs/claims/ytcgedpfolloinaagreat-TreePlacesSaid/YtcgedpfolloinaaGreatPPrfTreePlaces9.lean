/- What the proof of PrfTreePlaces rests on, part 9 of 11. -/
import Derived.Maps.AppendAt
import Derived.Deep.DeepCutAuto
import Derived.Test.YtcgedpfolloinaaGreatPPrfTreePlaces8
namespace Go.Proofs.YtcgedpfolloinaaGreat
open Go.RowKit

set_option maxRecDepth 100000 in
set_option maxHeartbeats 8000000 in
theorem tree_word_some (b : Nat) (F : List UInt8 → Option (Fo × List UInt8)) (l : List UInt8) (w : World) (s t0 r : List UInt8) (h : RdAt b l w) (hl : l.length ≤ 90000) (hb : beginP l = some (⟨0, s, [], 0, 0, []⟩, r)) (n : Nat) (hr : r.length ≤ n + 1) (hn : n ≤ 89000)
    (HL : ∀ t g u, F t = some (g, u) → u.length ≤ t.length)
    (HF : ∀ t W, RdAt b t W → t.length ≤ n → Calls Tryz.prog 152 #[.pointer (some ⟨b, 0, none⟩)] W fun e w' => Got b W (F t) (fun f w' v => LiesF W.heap.size w' v f) e w') (ha : r = 40 :: t0) :
    Calls Tryz.prog 165 #[.pointer (some ⟨b, 0, none⟩)] w fun e w' => Got b w (treeP F l) (TreV w.heap.size) e w' := by
  have hbw := h.lt
  have B0 := Lib.hid (begin_any b l (w.alloc zeroTree) ((Below.heap_alloc w _ b hbw).trans h) hl)
  have HB := Lib.hid hb
  have HN := Lib.hid (treeP_word (F := F) hb)
  have HS := Lib.hid (fun w1 w2 => TS.start (l := l) (r := r) (w1 := w1) (w2 := w2) ⟨0, s, [], 0, 0, []⟩ rfl hbw h)
  have HO0 : optA r = (attributesP t0).bind fun x => expP 41 x.1 x.2 := by subst ha; rfl
  have HA := Lib.hid (HN.out.trans (by rw [HO0]))
  generalize treeP F l = o at *
  clear h hb
  unfold zeroTree at B0
  go_enter Tryz.func165, Tryz.ntmps165
  go_wp2_with fail
  refine B0.out.mono ?_
  rintro e w1 hq
  obtain ⟨v, rfl, hv, hr⟩ := hq.take HB.out
  obtain rfl : v = .iface 200 (.string ⟨s.toArray⟩) := by
    rcases hv with ⟨s', h1, h2⟩ | ⟨n', d', h1, h2⟩ | ⟨s', h1, h2⟩
    · simp at h1; rw [h2, h1]
    · simp at h1
    · simp at h1
  have HR := Lib.hid hr
  clear hq hv hr
  have hm : ∀ W, (method 345 200 (.string ⟨s.toArray⟩) "withy/tree.head").run Tryz.prog W = .ok (242, .string ⟨s.toArray⟩) W := fun _ => by kernel_rfl
  have ha1 : ∀ W, (Instr.typeAssert (.iface 200 (.string ⟨s.toArray⟩)) 185 188 true).run Tryz.prog W = .ok (.tuple #[.agg #[.int .i64 0, .int .i64 0], .bool false]) W := fun _ => by kernel_rfl
  have ha2 : ∀ W, (Instr.typeAssert (.iface 200 (.string ⟨s.toArray⟩)) 185 189 true).run Tryz.prog W = .ok (.tuple #[.string ⟨#[]⟩, .bool false]) W := fun _ => by kernel_rfl
  go_wp2_with fail
  refine (word_head s _).mono ?_
  rintro e w2 ⟨rfl, hb2⟩
  unfold hdV
  have S := Lib.hid (HS.out w1 w2 HR.out hb2)
  clear hb2
  go_upto_region 3 with fail
  have q43 : w.heap.size < w2.heap.size := S.out.o3
  generalize w2.alloc _ = W at *
  generalize w2.heap.size = R4 at *
  subst ha
  have ht0 : t0.length ≤ n := by simp at hr; omega
  have ht1 : t0.length ≤ 1000000 := by omega
  have rd := Lib.hid S.out.rd.rd
  have HRR := Lib.hid (Rd.refl rd.out)
  clear HO0
  go_wp2_with fail
  refine (accept_yes b 40 t0 _ rd.out ht1).mono ?_
  rintro e wx ⟨rfl, hw⟩
  obtain rfl := hw.symm
  have S1 := Lib.hid (S.out.read (HRR.out.set t0))
  generalize W.setCell ⟨b, 0, none⟩ (.string ⟨t0.toArray⟩) = W1 at *
  clear rd HRR
  go_wp2_with fail
  refine (attributes_any b t0 _ S1.out.rd.rd (by omega)).mono ?_
  rintro e wa hq
  cases hqo : attributesP t0 with
  | none =>
    have HX := Lib.hid (HA.out.trans (by rw [hqo] <;> rfl))
    obtain ⟨rfl, t2, hr⟩ := hq.panic hqo
    have SX := Lib.hid (S1.out.read hr)
    clear hr hq hqo
    go_wp2_with fail
    exact ⟨rfl, .no HX.out SX.out.rd⟩
  | some x =>
    obtain ⟨ats, r1⟩ := x
    have HX := Lib.hid (HA.out.trans (show _ = (expP 41 ats r1).bind (fun y => (optK F y.2).map fun x => ((⟨0, s, y.1, 0, 0, []⟩, x.1), x.2)) by rw [hqo] <;> rfl))
    have hral := attributesP_len hqo
    obtain ⟨v, rfl, hv, hr⟩ := hq.take hqo
    have S2 := Lib.hid (S1.out.read hr)
    obtain ⟨aa, ca, rfl⟩ := attrsF_form hv
    have SG := Lib.hid (S2.out.attrs (attrsF_mono S1.out.lt hv))
    have d2 : ∃ z, wa.cell? ⟨R4, 2, none⟩ = some z := ⟨_, cell_of_block S2.out.k4 rfl⟩
    obtain ⟨z2, d2⟩ := d2
    have e2 := frozen_of_block (o := 2) S2.out.k4
    clear hr hq hqo hv
    go_wp2_with fail
    generalize wa.setCell ⟨R4, 2, none⟩ (.slice aa ats.length ca) = Wa at *
    clear d2 e2
    by_cases hx : r1.head? = some 41
    · obtain ⟨rr, rfl⟩ : ∃ t3, r1 = 41 :: t3 := by
        cases r1 with
        | nil => cases hx
        | cons c t => exact ⟨t, by rw [show c = 41 by simpa using hx]⟩
      have hrr : rr.length ≤ n + 1 := by simp at hral; omega
      have ht3 : rr.length ≤ 1000000 := by omega
      have HOL := Lib.hid (HX.out.trans (show _ = (optK F rr).map (fun x => ((⟨0, s, ats, 0, 0, []⟩, x.1), x.2)) from rfl))
      have rd := Lib.hid SG.out.rd.rd
      have HRR := Lib.hid (Rd.refl rd.out)
      clear hx
      refine (expect_yes b 41 rr _ rd.out ht3).mono ?_
      rintro e wx ⟨rfl, hw⟩
      obtain rfl := hw.symm
      have SA := Lib.hid (SG.out.read (HRR.out.set rr))
      generalize Wa.setCell ⟨b, 0, none⟩ (.string ⟨rr.toArray⟩) = Wb at *
      clear rd HRR
      by_cases hk : rr.head? = some 123
      · obtain ⟨t, rfl⟩ : ∃ t, rr = 123 :: t := by
          cases rr with
          | nil => cases hk
          | cons c t => exact ⟨t, by rw [show c = 123 by simpa using hk]⟩
        have htl : t.length ≤ n := by simp at hrr; omega
        have htl2 : t.length ≤ 1000000 := by omega
        have HK := Lib.hid (HOL.out.trans (show (optK F (123 :: t)).map _ = ((F t).bind fun x => expP 125 x.1 x.2).map (fun x => ((⟨0, s, ats, 0, 0, []⟩, x.1), x.2)) from rfl))
        have rd := Lib.hid SA.out.rd.rd
        have HRR := Lib.hid (Rd.refl rd.out)
        clear hk
        go_wp2_with fail
        refine (accept_yes b 123 t _ rd.out htl2).mono ?_
        rintro e wk ⟨rfl, hw⟩
        obtain rfl := hw.symm
        have Sk := Lib.hid (SA.out.read (HRR.out.set t))
        generalize Wb.setCell ⟨b, 0, none⟩ (.string ⟨t.toArray⟩) = Wk at *
        clear rd HRR
        go_wp2_with fail
        refine (HF t _ Sk.out.rd.rd htl).mono ?_
        rintro e wf hq
        cases hqo : F t with
        | none =>
          have HX := Lib.hid (HK.out.trans (by rw [hqo] <;> rfl))
          obtain ⟨rfl, t2, hr⟩ := hq.panic hqo
          have SX := Lib.hid (Sk.out.read hr)
          clear hr hq hqo
          go_wp2_with fail
          exact ⟨rfl, .no HX.out SX.out.rd⟩
        | some x =>
          obtain ⟨g, r2⟩ := x
          have FTX := Lib.hid hqo
          obtain ⟨v, rfl, hv, hr⟩ := hq.take hqo
          have HX := Lib.hid (HK.out.trans (show _ = (expP 125 g r2).map (fun x => ((⟨0, s, ats, 0, 0, []⟩, x.1), x.2)) by rw [hqo] <;> rfl))
          have Sf := Lib.hid (Sk.out.read hr)
          obtain ⟨ak, ck, rfl⟩ := liesF_form hv
          have SG := Lib.hid (Sf.out.kids (liesF_mono Sk.out.lt hv))
          have d6 : ∃ z, wf.cell? ⟨R4, 6, none⟩ = some z := ⟨_, cell_of_block Sf.out.k4 rfl⟩
          obtain ⟨z6, d6⟩ := d6
          have e6 := frozen_of_block (o := 6) Sf.out.k4
          clear hr hq hqo hv
          go_wp2_with fail
          generalize wf.setCell ⟨R4, 6, none⟩ (.slice ak g.len ck) = Wg at *
          clear d6 e6
          by_cases hx : r2.head? = some 125
          · obtain ⟨t3, rfl⟩ : ∃ t3, r2 = 125 :: t3 := by
              cases r2 with
              | nil => cases hx
              | cons c t => exact ⟨t, by rw [show c = 125 by simpa using hx]⟩
            have ht3 : t3.length ≤ 1000000 := by have := HL t _ _ (FTX.out); simp at this; omega
            have HY := Lib.hid (HX.out.trans (show _ = some ((⟨0, s, ats, 0, 0, []⟩, g), t3) from rfl))
            have rd := Lib.hid SG.out.rd.rd
            have HRR := Lib.hid (Rd.refl rd.out)
            clear hx
            refine (expect_yes b 125 t3 _ rd.out ht3).mono ?_
            rintro e wx ⟨rfl, hw⟩
            obtain rfl := hw.symm
            have SZ := Lib.hid (SG.out.read (HRR.out.set t3))
            generalize Wg.setCell ⟨b, 0, none⟩ (.string ⟨t3.toArray⟩) = Wz at *
            clear rd HRR
            have d0 : Wz.cell? ⟨R4, 0, none⟩ = some (.int .i64 0) := cell_of_block SZ.out.k4 rfl
            have d1 : Wz.cell? ⟨R4, 1, none⟩ = some (.string ⟨s.toArray⟩) := cell_of_block SZ.out.k4 rfl
            have d2 : Wz.cell? ⟨R4, 2, none⟩ = some (.slice aa ats.length ca) := cell_of_block SZ.out.k4 rfl
            have d3 : Wz.cell? ⟨R4, 3, none⟩ = some (.int .i64 0) := cell_of_block SZ.out.k4 rfl
            have d4 : Wz.cell? ⟨R4, 4, none⟩ = some (.int .i64 0) := cell_of_block SZ.out.k4 rfl
            have d5 : Wz.cell? ⟨R4, 5, none⟩ = some (.string ⟨#[]⟩) := cell_of_block SZ.out.k4 rfl
            have d6 : Wz.cell? ⟨R4, 6, none⟩ = some (.slice ak g.len ck) := cell_of_block SZ.out.k4 rfl
            have y0 : Wz.cell? ⟨w.heap.size, 0, none⟩ = some (.int .i64 0) := cell_of_block SZ.out.k2 rfl
            have y1 : Wz.cell? ⟨w.heap.size, 1, none⟩ = some (.string ⟨#[]⟩) := cell_of_block SZ.out.k2 rfl
            have y2 : Wz.cell? ⟨w.heap.size, 2, none⟩ = some (.slice none 0 0) := cell_of_block SZ.out.k2 rfl
            have y3 : Wz.cell? ⟨w.heap.size, 3, none⟩ = some (.int .i64 0) := cell_of_block SZ.out.k2 rfl
            have y4 : Wz.cell? ⟨w.heap.size, 4, none⟩ = some (.int .i64 0) := cell_of_block SZ.out.k2 rfl
            have y5 : Wz.cell? ⟨w.heap.size, 5, none⟩ = some (.string ⟨#[]⟩) := cell_of_block SZ.out.k2 rfl
            have y6 : Wz.cell? ⟨w.heap.size, 6, none⟩ = some (.slice none 0 0) := cell_of_block SZ.out.k2 rfl
            have z0 := frozen_of_block (o := 0) SZ.out.k2
            have z1 := frozen_of_block (o := 1) SZ.out.k2
            have z2 := frozen_of_block (o := 2) SZ.out.k2
            have z3 := frozen_of_block (o := 3) SZ.out.k2
            have z4 := frozen_of_block (o := 4) SZ.out.k2
            have z5 := frozen_of_block (o := 5) SZ.out.k2
            have z6 := frozen_of_block (o := 6) SZ.out.k2
            go_wp2_with fail
            have hfin := SZ.out.fin
            try rw [show Fo.nil.len = 0 from rfl] at hfin
            try rw [show ([] : List (List UInt8 × List UInt8)).length = 0 from rfl] at hfin
            generalize (((((((Wz.setCell ⟨w.heap.size, 0, none⟩ (.int .i64 0)).setCell ⟨w.heap.size, 1, none⟩ (.string ⟨s.toArray⟩)).setCell ⟨w.heap.size, 2, none⟩ (.slice aa ats.length ca)).setCell ⟨w.heap.size, 3, none⟩ (.int .i64 0)).setCell ⟨w.heap.size, 4, none⟩ (.int .i64 0)).setCell ⟨w.heap.size, 5, none⟩ (.string ⟨#[]⟩)).setCell ⟨w.heap.size, 6, none⟩ (.slice ak g.len ck)) = Wf at hfin ⊢
            obtain ⟨hrd, hbk, htv⟩ := hfin
            have u0 : Wf.cell? ⟨w.heap.size, 0, none⟩ = some (.int .i64 0) := cell_of_block hbk rfl
            have u1 : Wf.cell? ⟨w.heap.size, 1, none⟩ = some (.string ⟨s.toArray⟩) := cell_of_block hbk rfl
            have u2 : Wf.cell? ⟨w.heap.size, 2, none⟩ = some (.slice aa ats.length ca) := cell_of_block hbk rfl
            have u3 : Wf.cell? ⟨w.heap.size, 3, none⟩ = some (.int .i64 0) := cell_of_block hbk rfl
            have u4 : Wf.cell? ⟨w.heap.size, 4, none⟩ = some (.int .i64 0) := cell_of_block hbk rfl
            have u5 : Wf.cell? ⟨w.heap.size, 5, none⟩ = some (.string ⟨#[]⟩) := cell_of_block hbk rfl
            have u6 : Wf.cell? ⟨w.heap.size, 6, none⟩ = some (.slice ak g.len ck) := cell_of_block hbk rfl
            refine bodyPost_ret (v := .agg #[.int .i64 0, .string ⟨s.toArray⟩, .slice aa ats.length ca, .int .i64 0, .int .i64 0, .string ⟨#[]⟩, .slice ak g.len ck]) (by simp [results, Tryz.results165, go_sem, u0, u1, u2, u3, u4, u5, u6]) rfl ?_
            exact .yes HY.out htv hrd
          · have HY := Lib.hid (HX.out.trans (by rw [show expP 125 g r2 = none from expP_no (k := 125) hx] <;> rfl))
            have rd := Lib.hid SG.out.rd.rd
            refine (expect_no b 125 r2 _ rd.out hx).mono ?_
            rintro e wx ⟨rfl, hbx⟩
            have RX := Lib.hid (SG.out.rd.below hbx)
            clear hbx hx
            go_wp2_with fail
            exact ⟨rfl, .no HY.out RX.out⟩
      · have HY := Lib.hid (HOL.out.trans (show _ = some ((⟨0, s, ats, 0, 0, []⟩, .nil), rr) by rw [optK_no hk] <;> rfl))
        have rd := Lib.hid SA.out.rd.rd
        have AN := Lib.hid (accept_not b 123 rr _ rd.out hk)
        clear hk
        go_wp2_with fail
        refine AN.out.mono ?_
        rintro e wx ⟨rfl, hw⟩
        obtain rfl := hw.symm
        have d0 : Wb.cell? ⟨R4, 0, none⟩ = some (.int .i64 0) := cell_of_block SA.out.k4 rfl
        have d1 : Wb.cell? ⟨R4, 1, none⟩ = some (.string ⟨s.toArray⟩) := cell_of_block SA.out.k4 rfl
        have d2 : Wb.cell? ⟨R4, 2, none⟩ = some (.slice aa ats.length ca) := cell_of_block SA.out.k4 rfl
        have d3 : Wb.cell? ⟨R4, 3, none⟩ = some (.int .i64 0) := cell_of_block SA.out.k4 rfl
        have d4 : Wb.cell? ⟨R4, 4, none⟩ = some (.int .i64 0) := cell_of_block SA.out.k4 rfl
        have d5 : Wb.cell? ⟨R4, 5, none⟩ = some (.string ⟨#[]⟩) := cell_of_block SA.out.k4 rfl
        have d6 : Wb.cell? ⟨R4, 6, none⟩ = some (.slice none 0 0) := cell_of_block SA.out.k4 rfl
        have y0 : Wb.cell? ⟨w.heap.size, 0, none⟩ = some (.int .i64 0) := cell_of_block SA.out.k2 rfl
        have y1 : Wb.cell? ⟨w.heap.size, 1, none⟩ = some (.string ⟨#[]⟩) := cell_of_block SA.out.k2 rfl
        have y2 : Wb.cell? ⟨w.heap.size, 2, none⟩ = some (.slice none 0 0) := cell_of_block SA.out.k2 rfl
        have y3 : Wb.cell? ⟨w.heap.size, 3, none⟩ = some (.int .i64 0) := cell_of_block SA.out.k2 rfl
        have y4 : Wb.cell? ⟨w.heap.size, 4, none⟩ = some (.int .i64 0) := cell_of_block SA.out.k2 rfl
        have y5 : Wb.cell? ⟨w.heap.size, 5, none⟩ = some (.string ⟨#[]⟩) := cell_of_block SA.out.k2 rfl
        have y6 : Wb.cell? ⟨w.heap.size, 6, none⟩ = some (.slice none 0 0) := cell_of_block SA.out.k2 rfl
        have z0 := frozen_of_block (o := 0) SA.out.k2
        have z1 := frozen_of_block (o := 1) SA.out.k2
        have z2 := frozen_of_block (o := 2) SA.out.k2
        have z3 := frozen_of_block (o := 3) SA.out.k2
        have z4 := frozen_of_block (o := 4) SA.out.k2
        have z5 := frozen_of_block (o := 5) SA.out.k2
        have z6 := frozen_of_block (o := 6) SA.out.k2
        go_wp2_with fail
        have hfin := SA.out.fin
        try rw [show Fo.nil.len = 0 from rfl] at hfin
        try rw [show ([] : List (List UInt8 × List UInt8)).length = 0 from rfl] at hfin
        generalize (((((((Wb.setCell ⟨w.heap.size, 0, none⟩ (.int .i64 0)).setCell ⟨w.heap.size, 1, none⟩ (.string ⟨s.toArray⟩)).setCell ⟨w.heap.size, 2, none⟩ (.slice aa ats.length ca)).setCell ⟨w.heap.size, 3, none⟩ (.int .i64 0)).setCell ⟨w.heap.size, 4, none⟩ (.int .i64 0)).setCell ⟨w.heap.size, 5, none⟩ (.string ⟨#[]⟩)).setCell ⟨w.heap.size, 6, none⟩ (.slice none 0 0)) = Wf at hfin ⊢
        obtain ⟨hrd, hbk, htv⟩ := hfin
        have u0 : Wf.cell? ⟨w.heap.size, 0, none⟩ = some (.int .i64 0) := cell_of_block hbk rfl
        have u1 : Wf.cell? ⟨w.heap.size, 1, none⟩ = some (.string ⟨s.toArray⟩) := cell_of_block hbk rfl
        have u2 : Wf.cell? ⟨w.heap.size, 2, none⟩ = some (.slice aa ats.length ca) := cell_of_block hbk rfl
        have u3 : Wf.cell? ⟨w.heap.size, 3, none⟩ = some (.int .i64 0) := cell_of_block hbk rfl
        have u4 : Wf.cell? ⟨w.heap.size, 4, none⟩ = some (.int .i64 0) := cell_of_block hbk rfl
        have u5 : Wf.cell? ⟨w.heap.size, 5, none⟩ = some (.string ⟨#[]⟩) := cell_of_block hbk rfl
        have u6 : Wf.cell? ⟨w.heap.size, 6, none⟩ = some (.slice none 0 0) := cell_of_block hbk rfl
        refine bodyPost_ret (v := .agg #[.int .i64 0, .string ⟨s.toArray⟩, .slice aa ats.length ca, .int .i64 0, .int .i64 0, .string ⟨#[]⟩, .slice none 0 0]) (by simp [results, Tryz.results165, go_sem, u0, u1, u2, u3, u4, u5, u6]) rfl ?_
        exact .yes HY.out htv hrd
    · have HY := Lib.hid (HX.out.trans (by rw [show expP 41 ats r1 = none from expP_no (k := 41) hx] <;> rfl))
      have rd := Lib.hid SG.out.rd.rd
      refine (expect_no b 41 r1 _ rd.out hx).mono ?_
      rintro e wx ⟨rfl, hbx⟩
      have RX := Lib.hid (SG.out.rd.below hbx)
      clear hbx hx
      go_wp2_with fail
      exact ⟨rfl, .no HY.out RX.out⟩
end Go.Proofs.YtcgedpfolloinaaGreat

namespace Go.Proofs.YtcgedpfolloinaaGreat
open Go.RowKit

theorem parseT_nil : (parseT []).2.2 ≠ 0 := by decide
theorem beginP_len {l r : List UInt8} {h : Hd} (hb : beginP l = some (h, r)) : r.length + 1 ≤ l.length := by
  cases l with
  | nil => cases hb
  | cons c t =>
    by_cases h34 : c.toNat = 34
    · rw [show beginP (c :: t) = (quoP (c :: t)).map fun x => (⟨2, [], [], 0, 0, x.1⟩, x.2) by unfold beginP; simp [h34]] at hb
      simp only [Option.map_eq_some_iff, Prod.mk.injEq, Prod.exists] at hb
      obtain ⟨s, r', h2, _, rfl⟩ := hb
      have := quoP_len h2
      omega
    · by_cases hd : c.toNat = 45 ∨ digitB c = true
      · rw [show beginP (c :: t) = (figP (c :: t)).map fun x => (⟨1, [], [], x.1.1, x.1.2, []⟩, x.2) by unfold beginP; simp only [if_neg h34, if_pos hd]] at hb
        simp only [Option.map_eq_some_iff, Prod.mk.injEq, Prod.exists] at hb
        obtain ⟨n, d, r', h2, _, rfl⟩ := hb
        have hle := numLen_le (c :: t)
        unfold figP at h2
        by_cases h0 : numLen (c :: t) = 0
        · rw [h0, List.take_zero] at h2
          simp only [if_neg parseT_nil] at h2
          cases h2
        · simp only at h2
          by_cases h3 : (parseT ((c :: t).take (numLen (c :: t)))).2.2 = 0
          · rw [if_pos h3] at h2
            have h4 := (Prod.mk.inj (Option.some.inj h2)).2
            rw [← h4, List.length_drop]
            omega
          · rw [if_neg h3] at h2; cases h2
      · rw [show beginP (c :: t) = if wordLen (c :: t) = 0 then none else some (⟨0, (c :: t).take (wordLen (c :: t)), [], 0, 0, []⟩, (c :: t).drop (wordLen (c :: t))) by unfold beginP; simp only [if_neg h34, if_neg hd]] at hb
        have hle := wordLen_le (c :: t)
        by_cases h0 : wordLen (c :: t) = 0
        · rw [if_pos h0] at hb; cases hb
        · rw [if_neg h0] at hb
          have h4 := (Prod.mk.inj (Option.some.inj hb)).2
          rw [← h4, List.length_drop]
          omega
/-- what a head begins with is one of three. -/
theorem beginP_form {l r : List UInt8} {h : Hd} (hb : beginP l = some (h, r)) : (∃ s, h = ⟨0, s, [], 0, 0, []⟩) ∨ (∃ n d, h = ⟨1, [], [], n, d, []⟩) ∨ ∃ s, h = ⟨2, [], [], 0, 0, s⟩ := by
  cases l with
  | nil => cases hb
  | cons c t =>
    by_cases h34 : c.toNat = 34
    · rw [show beginP (c :: t) = (quoP (c :: t)).map fun x => (⟨2, [], [], 0, 0, x.1⟩, x.2) by unfold beginP; simp [h34]] at hb
      simp only [Option.map_eq_some_iff, Prod.mk.injEq, Prod.exists] at hb
      obtain ⟨s, r', _, h2, _⟩ := hb
      exact .inr (.inr ⟨s, h2.symm⟩)
    · by_cases hd : c.toNat = 45 ∨ digitB c = true
      · rw [show beginP (c :: t) = (figP (c :: t)).map fun x => (⟨1, [], [], x.1.1, x.1.2, []⟩, x.2) by unfold beginP; simp only [if_neg h34, if_pos hd]] at hb
        simp only [Option.map_eq_some_iff, Prod.mk.injEq, Prod.exists] at hb
        obtain ⟨n, d, r', _, h2, _⟩ := hb
        exact .inr (.inl ⟨n, d, h2.symm⟩)
      · rw [show beginP (c :: t) = if wordLen (c :: t) = 0 then none else some (⟨0, (c :: t).take (wordLen (c :: t)), [], 0, 0, []⟩, (c :: t).drop (wordLen (c :: t))) by unfold beginP; simp only [if_neg h34, if_neg hd]] at hb
        by_cases h0 : wordLen (c :: t) = 0
        · rw [if_pos h0] at hb; cases hb
        · rw [if_neg h0] at hb
          exact .inl ⟨_, ((Prod.mk.inj (Option.some.inj hb)).1).symm⟩
theorem expP_len {α : Type} {k : Nat} {x y : α} {l r : List UInt8} (h : expP k x l = some (y, r)) : r.length ≤ l.length := by
  cases l with
  | nil => cases h
  | cons c t =>
    rw [show expP k x (c :: t) = if c.toNat = k then some (x, t) else none from rfl] at h
    by_cases hc : c.toNat = k
    · rw [if_pos hc] at h
      have := (Prod.mk.inj (Option.some.inj h)).2
      rw [← this]; simp
    · rw [if_neg hc] at h; cases h
theorem optA_len {l r : List UInt8} {a : List (List UInt8 × List UInt8)} (h : optA l = some (a, r)) : r.length ≤ l.length := by
  by_cases hc : l.head? = some 40
  · cases l with
    | nil => cases hc
    | cons c t =>
      obtain rfl : c = 40 := by simpa using hc
      rw [show optA (40 :: t) = (attributesP t).bind fun x => expP 41 x.1 x.2 from rfl] at h
      simp only [Option.bind_eq_some_iff, Prod.exists] at h
      obtain ⟨a1, r1, h1, h2⟩ := h
      have := attributesP_len h1
      have := expP_len h2
      simp; omega
  · rw [optA_no hc] at h
    have := (Prod.mk.inj (Option.some.inj h)).2
    rw [this]; exact Nat.le_refl _
theorem optK_len {F : List UInt8 → Option (Fo × List UInt8)} (HL : ∀ t g u, F t = some (g, u) → u.length ≤ t.length) {l r : List UInt8} {g : Fo} (h : optK F l = some (g, r)) : r.length ≤ l.length := by
  by_cases hc : l.head? = some 123
  · cases l with
    | nil => cases hc
    | cons c t =>
      obtain rfl : c = 123 := by simpa using hc
      rw [show optK F (123 :: t) = (F t).bind fun x => expP 125 x.1 x.2 from rfl] at h
      simp only [Option.bind_eq_some_iff, Prod.exists] at h
      obtain ⟨a1, r1, h1, h2⟩ := h
      have := HL _ _ _ h1
      have := expP_len h2
      simp; omega
  · rw [optK_no hc] at h
    have := (Prod.mk.inj (Option.some.inj h)).2
    rw [this]; exact Nat.le_refl _
theorem treeP_len {F : List UInt8 → Option (Fo × List UInt8)} (HL : ∀ t g u, F t = some (g, u) → u.length ≤ t.length) {l r : List UInt8} {x : Hd × Fo} (h : treeP F l = some (x, r)) : r.length + 1 ≤ l.length := by
  cases hb : beginP l with
  | none => rw [treeP_none hb] at h; cases h
  | some y =>
    obtain ⟨hd, r0⟩ := y
    have hl := beginP_len hb
    rcases beginP_form hb with ⟨s, rfl⟩ | ⟨n, d, rfl⟩ | ⟨s, rfl⟩
    · rw [treeP_word hb] at h
      simp only [Option.bind_eq_some_iff, Option.map_eq_some_iff, Prod.mk.injEq, Prod.exists] at h
      obtain ⟨a, r1, h1, g, r2, h2, _, rfl⟩ := h
      have := optA_len h1
      have := optK_len HL h2
      omega
    · rw [treeP_leaf hb (by simp)] at h
      have := (Prod.mk.inj (Option.some.inj h)).2
      rw [← this]; exact hl
    · rw [treeP_leaf hb (by simp)] at h
      have := (Prod.mk.inj (Option.some.inj h)).2
      rw [← this]; exact hl

set_option maxRecDepth 100000 in
set_option maxHeartbeats 4000000 in
theorem tree_none (b : Nat) (F : List UInt8 → Option (Fo × List UInt8)) (l : List UInt8) (w : World) (h : RdAt b l w) (hl : l.length ≤ 90000) (hb : beginP l = none) :
    Calls Tryz.prog 165 #[.pointer (some ⟨b, 0, none⟩)] w fun e w' => Got b w (treeP F l) (TreV w.heap.size) e w' := by
  have hbw := h.lt
  have B0 := Lib.hid (begin_any b l (w.alloc zeroTree) ((Below.heap_alloc w _ b hbw).trans h) hl)
  have R0 := Lib.hid ((Rd.refl h).alloc zeroTree)
  have HB := Lib.hid hb
  have HN := Lib.hid (treeP_none (F := F) hb)
  generalize treeP F l = o at *
  clear h hb
  unfold zeroTree at B0
  go_enter Tryz.func165, Tryz.ntmps165
  go_wp2_with fail
  refine B0.out.mono ?_
  rintro e w1 hq
  obtain ⟨rfl, t2, hr⟩ := hq.panic HB.out
  have RX := Lib.hid (R0.out.trans hr)
  clear hq hr
  go_wp2_with fail
  exact ⟨rfl, .no HN.out RX.out⟩

theorem tree_any (b : Nat) (F : List UInt8 → Option (Fo × List UInt8)) (n : Nat) (hn : n ≤ 89000) (HL : ∀ t g u, F t = some (g, u) → u.length ≤ t.length)
    (HF : ∀ t W, RdAt b t W → t.length ≤ n → Calls Tryz.prog 152 #[.pointer (some ⟨b, 0, none⟩)] W fun e w' => Got b W (F t) (fun f w' v => LiesF W.heap.size w' v f) e w')
    (l : List UInt8) (w : World) (h : RdAt b l w) (hl : l.length ≤ n + 1) :
    Calls Tryz.prog 165 #[.pointer (some ⟨b, 0, none⟩)] w fun e w' => Got b w (treeP F l) (TreV w.heap.size) e w' := by
  cases hb : beginP l with
  | none => exact tree_none b F l w h (by omega) hb
  | some y =>
    obtain ⟨hd, r⟩ := y
    have hbl := beginP_len hb
    rcases beginP_form hb with ⟨s, rfl⟩ | ⟨m, d, rfl⟩ | ⟨s, rfl⟩
    · by_cases ha : r.head? = some 40
      · cases r with
        | nil => cases ha
        | cons c t =>
          obtain rfl : c = 40 := by simpa using ha
          exact tree_word_some b F l w s t _ h (by omega) hb n (by omega) hn HL HF rfl
      · exact tree_word_none b F l w s r h (by omega) hb n (by omega) hn HL HF ha
    · exact tree_figure b F l w m d r h (by omega) hb
    · exact tree_quoted b F l w s r h (by omega) hb
end Go.Proofs.YtcgedpfolloinaaGreat

namespace Go.Proofs.YtcgedpfolloinaaGreat
open Go.RowKit

def treeCells (h : Hd) (aa : Option Addr) (ca : Nat) (ak : Option Addr) (n ck : Nat) : List Value :=
  [.int .i64 h.k, .string ⟨h.l.toArray⟩, .slice aa h.ats.length ca, .int .i64 h.n, .int .i64 h.d, .string ⟨h.x.toArray⟩, .slice ak n ck]
/-- the cells of a row of trees. -/
def RowL (B : Nat) (W : World) : Fo → List Value → Prop
  | .nil, cs => cs = []
  | .cons h ks r, cs => ∃ aa ca ak ck rest, cs = treeCells h aa ca ak ks.len ck ++ rest ∧ AttrsF B W (.slice aa h.ats.length ca) h.ats ∧ LiesF B W (.slice ak ks.len ck) ks ∧ RowL B W r rest
theorem rowL_snoc {B : Nat} {W : World} {h : Hd} {ks : Fo} {aa : Option Addr} {ca : Nat} {ak : Option Addr} {ck : Nat} (ha : AttrsF B W (.slice aa h.ats.length ca) h.ats) (hk : LiesF B W (.slice ak ks.len ck) ks) :
    ∀ (f : Fo) (cs : List Value), RowL B W f cs → RowL B W (f.app (.cons h ks .nil)) (cs ++ treeCells h aa ca ak ks.len ck)
  | .nil, cs, H => by
    rw [show cs = [] from H]
    exact ⟨aa, ca, ak, ck, [], by simp, ha, hk, rfl⟩
  | .cons h' ks' r, cs, H => by
    obtain ⟨aa', ca', ak', ck', rest, rfl, ha', hk', hr⟩ := H
    exact ⟨aa', ca', ak', ck', _, by simp, ha', hk', rowL_snoc ha hk r rest hr⟩
theorem rowL_row {B : Nat} {W : World} {g : Nat} : ∀ (f : Fo) (cs : List Value) (o : Nat), RowL B W f cs → (∀ j u, cs[j]? = some u → W.cell? ⟨g, o + j, none⟩ = some u) → RowF B W f g o
  | .nil, _, _, _, _ => trivial
  | .cons h ks r, cs, o, H, hc => by
    obtain ⟨aa, ca, ak, ck, rest, rfl, ha, hk, hr⟩ := H
    refine ⟨⟨hc 0 _ rfl, hc 1 _ rfl, ⟨_, hc 2 _ rfl, ha⟩, hc 3 _ rfl, hc 4 _ rfl, hc 5 _ rfl⟩, ⟨_, hc 6 _ rfl, hk⟩, rowL_row r rest (o + 7) hr fun j u hj => ?_⟩
    have := hc (7 + j) u (by rw [List.getElem?_append_right (by simp [treeCells])]; simpa [treeCells] using hj)
    rw [show o + 7 + j = o + (7 + j) by omega]
    exact this
theorem app_cons (h : Hd) (ks y : Fo) : ∀ f : Fo, (f.app (.cons h ks .nil)).app y = f.app (.cons h ks y)
  | .nil => rfl
  | .cons h' ks' r => by simp only [Fo.app]; rw [app_cons h ks y r]
theorem app_len (h : Hd) (ks : Fo) : ∀ f : Fo, (f.app (.cons h ks .nil)).len = f.len + 1
  | .nil => rfl
  | .cons h' ks' r => by simp only [Fo.app, Fo.len]; rw [app_len h ks r]
theorem app_nil : ∀ f : Fo, f.app .nil = f
  | .nil => rfl
  | .cons h' ks' r => by simp only [Fo.app]; rw [app_nil r]
/-- the cells hold a row, whatever happens to the row's own block. -/
def Stab (B g : Nat) (W0 : World) (f : Fo) (cs : List Value) : Prop :=
  ∀ W : World, W0.heap.size ≤ W.heap.size → (∀ k o, B ≤ k → k < W0.heap.size → k ≠ g → W.cell? ⟨k, o, none⟩ = W0.cell? ⟨k, o, none⟩) → RowL B W f cs
theorem Stab.next {B g g' : Nat} {W0 W1 : World} {f : Fo} {cs : List Value} (h : Stab B g W0 f cs) (hs : W0.heap.size ≤ W1.heap.size) (hc : ∀ k o, B ≤ k → k < W0.heap.size → k ≠ g → W1.cell? ⟨k, o, none⟩ = W0.cell? ⟨k, o, none⟩) (hg : g' = g ∨ W0.heap.size ≤ g') :
    Stab B g' W1 f cs := fun W hW hk => h W (Nat.le_trans hs hW) fun k o h1 h2 h3 => (hk k o h1 (Nat.lt_of_lt_of_le h2 hs) (by rcases hg with rfl | hg; exact h3; omega)).trans (hc k o h1 h2 h3)
theorem restP_more {T : List UInt8 → Option ((Hd × Fo) × List UInt8)} {n : Nat} {t : List UInt8} : restP T (n + 1) (32 :: t) = (T t).bind fun y => (restP T n y.2).map fun z => (.cons y.1.1 y.1.2 z.1, z.2) := by
  rw [restP]
  simp only [show (32 : UInt8).toNat = 32 from rfl, if_true]
  cases T t with
  | none => rfl
  | some y => rfl
theorem restP_stop {T : List UInt8 → Option ((Hd × Fo) × List UInt8)} {n : Nat} {l : List UInt8} (h : l.head? ≠ some 32) : restP T n l = some (.nil, l) := by
  cases n with
  | zero => rfl
  | succ n =>
    cases l with
    | nil => rfl
    | cons c t => rw [restP, if_neg fun e => h (by rw [show c = 32 from UInt8.toNat_inj.1 (by rw [e]; rfl)]; rfl)]

theorem forestP_eq (n : Nat) (l : List UInt8) : forestP (n + 1) l = (treeP (forestP n) l).bind fun y => (restP (treeP (forestP n)) y.2.length y.2).map fun z => (.cons y.1.1 y.1.2 z.1, z.2) := by
  rw [forestP]
  cases treeP (forestP n) l with
  | none => rfl
  | some y => rfl

set_option maxRecDepth 100000 in
set_option maxHeartbeats 8000000 in
theorem forest_step (b : Nat) (T : List UInt8 → Option ((Hd × Fo) × List UInt8)) (o : Option (Fo × List UInt8)) (l : List UInt8) (w : World) (h : RdAt b l w) (hl : l.length ≤ 90000)
    (HTL : ∀ t x u, T t = some (x, u) → u.length + 1 ≤ t.length)
    (HT : ∀ t W, RdAt b t W → t.length ≤ l.length → Calls Tryz.prog 165 #[.pointer (some ⟨b, 0, none⟩)] W fun e w' => Got b W (T t) (TreV W.heap.size) e w')
    (ho : o = (T l).bind fun y => (restP T y.2.length y.2).map fun z => (.cons y.1.1 y.1.2 z.1, z.2)) :
    Calls Tryz.prog 152 #[.pointer (some ⟨b, 0, none⟩)] w fun e w' => Got b w o (fun f w' v => LiesF w.heap.size w' v f) e w' := by
  obtain ⟨i0, hi, hz0, hz1, hz2⟩ := info_parts info_tree
  have hbw := h.lt
  have A0 := Lib.hid (HT l w h (Nat.le_refl _))
  have HTT := Lib.hid HT
  have HLL := Lib.hid HTL
  have HO := Lib.hid ho
  clear h ho HT HTL
  go_enter Tryz.func152, Tryz.ntmps152
  go_wp2_with fail
  refine A0.out.mono ?_
  rintro e w1 hq
  cases ha : T l with
  | none =>
    have HN := Lib.hid (HO.out.trans (by rw [ha] <;> rfl))
    obtain ⟨rfl, t2, hr⟩ := hq.panic ha
    have HR := Lib.hid hr
    clear hr hq ha
    go_wp2_with fail
    exact ⟨rfl, .no HN.out HR.out⟩
  | some x =>
    obtain ⟨⟨hd, ks⟩, r⟩ := x
    have HX := Lib.hid (HO.out.trans (show _ = (restP T r.length r).map (fun z => ((Fo.cons hd ks .nil).app z.1, z.2)) by rw [ha] <;> rfl))
    obtain ⟨v, rfl, ⟨aa, ca, ak, ck, rfl, hfa, hfk⟩, hr⟩ := hq.take ha
    have hrl := HLL.out _ _ _ ha
    have HR := Lib.hid hr
    have HFA := Lib.hid hfa
    have HFK := Lib.hid hfk
    have hs1 := hr.bel.size
    simp only at hfa hfk
    clear hr hq ha hfa hfk
    unfold aggOf
    go_wp2_with fail
    go_loopw [3] (fun v wr => ∃ (f : Fo) (r : List UInt8) (n g cap : Nat) (cs : List Value), v = .slice (some ⟨g, 0, none⟩) f.len cap ∧ o = (restP T n r).map (fun z => (f.app z.1, z.2)) ∧ r.length ≤ n ∧ f.len + r.length ≤ l.length ∧ Rd b r w wr ∧ wr.ownsRow w.heap.size 43 7 v f.len cs ∧ Stab w.heap.size g wr f cs) (fun _ wr => match wr.cell? ⟨b, 0, none⟩ with | some (.string x) => x.size | _ => 0)
    case atStart =>
      refine ⟨.cons hd ks .nil, r, r.length, w1.heap.size, 1, treeCells hd aa ca ak ks.len ck, rfl, HX.out, Nat.le_refl _, by simp [Fo.len]; omega, HR.out.alloc _, ?_, ?_⟩
      · exact World.ownsRow_lit (e := 43) (size := 7) (base := w.heap.size) w1 #[.int .i64 hd.k, .string ⟨hd.l.toArray⟩, .slice aa hd.ats.length ca, .int .i64 hd.n, .int .i64 hd.d, .string ⟨hd.x.toArray⟩, .slice ak ks.len ck] 1 hs1 (by unfold maxLen; omega) rfl
      · intro W hW hc
        have hk : Keeps w.heap.size w1 W := ⟨by simp at hW; omega, fun k o hk hlt => (hc k o hk (by simp; omega) (by omega)).trans (World.cell?_of_block (Below.heap_alloc w1 _ k hlt))⟩
        exact ⟨aa, ca, ak, ck, [], by simp, attrsF_keeps HFA.out hk, liesF_keeps HFK.out hk, rfl⟩
    case round =>
      obtain ⟨f, r, n, g, cap, cs, rfl, hq, hrn, hlen, rr, hown, hst⟩ := hrel
      have RR := Lib.hid rr
      have HOWN := Lib.hid hown
      have HQ := Lib.hid hq
      have HST := Lib.hid hst
      have hsr := rr.bel.size
      have hgl := hown.lt g rfl
      clear rr hown hq hst
      by_cases hc : r.head? = some 32
      · obtain ⟨t, rfl⟩ : ∃ t, r = 32 :: t := by
          cases r with
          | nil => cases hc
          | cons c t => exact ⟨t, by rw [show c = 32 by simpa using hc]⟩
        obtain ⟨m, rfl⟩ : ∃ m, n = m + 1 := ⟨n - 1, by simp at hrn; omega⟩
        have hmt : t.length ≤ m := by simp at hrn; omega
        have htl : t.length ≤ l.length := by simp at hlen; omega
        have R2 := Lib.hid (RR.out.set t)
        have AA := Lib.hid (HTT.out t _ R2.out.rd htl)
        have O2 := Lib.hid (owns_rd ((Rd.refl RR.out.rd).set t) hbw HOWN.out)
        have HQ2 := Lib.hid (HQ.out.trans (by rw [restP_more]))
        have hlt : t.length ≤ 1000000 := by omega
        have hlen2 : f.len + t.length + 1 ≤ l.length := by simp at hlen; omega
        have S2 := Lib.hid (HST.out.next (W1 := wr.setCell ⟨b, 0, none⟩ (.string ⟨t.toArray⟩)) (g' := g) (by simp [World.setCell]) (fun k o hk _ _ => World.cell?_of_block (Below.heap_setCell _ _ _ _ (by show k ≠ b; omega))) (.inl rfl))
        clear hc
        go_wp2_with fail
        refine (accept_yes b 32 t _ RR.out.rd hlt).mono ?_
        rintro e w2 ⟨rfl, hw⟩
        obtain rfl := hw.symm
        have hs2 : (wr.setCell ⟨b, 0, none⟩ (.string ⟨t.toArray⟩)).heap.size = wr.heap.size := by simp [World.setCell]
        generalize wr.setCell ⟨b, 0, none⟩ (.string ⟨t.toArray⟩) = w2 at *
        go_wp2_with fail
        refine AA.out.mono ?_
        rintro e w3 hq
        cases ha : T t with
        | none =>
          have HN := Lib.hid (HQ2.out.trans (by rw [ha] <;> rfl))
          obtain ⟨rfl, t2, hr⟩ := hq.panic ha
          have HR := Lib.hid (R2.out.trans hr)
          clear hr hq ha
          go_wp2_with fail
          exact ⟨rfl, .no HN.out HR.out⟩
        | some x =>
          obtain ⟨⟨hd, ks⟩, r⟩ := x
          have HN := Lib.hid (HQ2.out.trans (show _ = (restP T m r).map (fun z => ((f.app (.cons hd ks .nil)).app z.1, z.2)) by rw [ha]; simp only [Option.bind_some]; cases restP T m r <;> simp [app_cons]))
          obtain ⟨v, rfl, ⟨aa, ca, ak, ck, rfl, hfa, hfk⟩, hr⟩ := hq.take ha
          have hal := HLL.out _ _ _ ha
          have R3 := Lib.hid (R2.out.trans hr)
          have O3 := Lib.hid (owns_rd hr hbw O2.out)
          have hs3 := hr.bel.size
          have S3 := Lib.hid (S2.out.next (W1 := w3) (g' := g) hs3 (fun k o hk hlt _ => World.cell?_of_block (hr.oth k hlt (by omega))) (.inl rfl))
          have HFA := Lib.hid hfa
          have HFK := Lib.hid hfk
          clear hr hq ha hfa hfk
          unfold aggOf
          go_wp2_with (at_builtin; refine wpList_append_own_at _ rfl _ _ 28 rfl w.heap.size 43 i0 _ 7 104 Tryz.underlying28 hi hz0 hz1 hz2 rfl (by decide) _ f.len cs rfl ((O3.out.alloc _).alloc _) ⟨w3.heap.size + 1, 0, none⟩ 1 1 (treeCells hd aa ca ak ks.len ck) rfl rfl ?c1 ?c2 ?c3 ?c4 ?c5 ?stop)
          case c1 =>
            intro j u hj
            have hnew := World.alloc_heap_new (w3.alloc (.cells #[.int .i64 hd.k, .string ⟨hd.l.toArray⟩, .slice aa hd.ats.length ca, .int .i64 hd.n, .int .i64 hd.d, .string ⟨hd.x.toArray⟩, .slice ak ks.len ck] 43)) (.cells #[.int .i64 hd.k, .string ⟨hd.l.toArray⟩, .slice aa hd.ats.length ca, .int .i64 hd.n, .int .i64 hd.d, .string ⟨hd.x.toArray⟩, .slice ak ks.len ck] 43)
            rw [show (w3.alloc (.cells #[.int .i64 hd.k, .string ⟨hd.l.toArray⟩, .slice aa hd.ats.length ca, .int .i64 hd.n, .int .i64 hd.d, .string ⟨hd.x.toArray⟩, .slice ak ks.len ck] 43)).heap.size = w3.heap.size + 1 by simp] at hnew
            rw [Go.WideShapes.add_plain]
            exact cell_of_block hnew (by simpa [treeCells] using hj)
          case c2 => intro u hu; simp [treeCells] at hu; rcases hu with rfl | rfl | rfl | rfl | rfl | rfl | rfl <;> rfl
          case c3 => unfold maxLen; omega
          case c4 => omega
          case c5 => simp; omega
          case stop =>
            intro v' w5 hown' hgrow _ hat
            obtain ⟨g', cap', rfl⟩ : ∃ g cap, v' = .slice (some ⟨g, 0, none⟩) (f.len + 1) cap := by
              rcases hown'.2 with ⟨_, h0⟩ | ⟨g, cap, cur, hv, _⟩
              · omega
              · exact ⟨g, cap, hv⟩
            have hat2 : g' = g ∨ g' = w3.heap.size + 1 + 1 := by simpa [Value.ownBlock] using hat
            have hs5 := hgrow.size
            simp at hs5
            have hcell : ∀ W : World, w5.heap.size ≤ W.heap.size → (∀ k o, w.heap.size ≤ k → k < w5.heap.size → k ≠ g' → W.cell? ⟨k, o, none⟩ = w5.cell? ⟨k, o, none⟩) → ∀ k o, w.heap.size ≤ k → k < w3.heap.size → k ≠ g → W.cell? ⟨k, o, none⟩ = w3.cell? ⟨k, o, none⟩ := by
              intro W hW hc k o h1 h2 h3
              refine (hc k o h1 (by omega) (by omega)).trans (World.cell?_of_block ?_)
              rw [hgrow.block k (by simp; omega) (by simp [Value.ownBlock]; omega), Below.heap_alloc _ _ k (by simp; omega), Below.heap_alloc _ _ k h2]
            have S5 := Lib.hid (show Stab w.heap.size g' w5 (f.app (.cons hd ks .nil)) (cs ++ treeCells hd aa ca ak ks.len ck) by
              intro W hW hc
              have hcc := hcell W hW hc
              have hk : Keeps w2.heap.size w3 W := ⟨by omega, fun k o h1 h2 => hcc k o (by omega) h2 (by omega)⟩
              exact rowL_snoc (attrsF_mono (by omega) (attrsF_keeps HFA.out hk)) (liesF_mono (by omega) (liesF_keeps HFK.out hk)) f cs (S3.out W (by omega) hcc))
            have O5 := Lib.hid (show w5.ownsRow w.heap.size 43 7 (.slice (some ⟨g', 0, none⟩) (f.len + 1) cap') (f.app (.cons hd ks .nil)).len (cs ++ treeCells hd aa ca ak ks.len ck) by
              rw [app_len]; exact hown')
            have R5 := Lib.hid (((R3.out.alloc _).alloc _).grown hbw hgrow (fun k hk => (O3.out.lt k hk).1))
            clear hown' hgrow hat hcell
            go_wp2_with fail
            go_roundw
            case rel => exact ⟨f.app (.cons hd ks .nil), r, m, g', cap', _, by rw [app_len], HN.out, by omega, by rw [app_len]; omega, R5.out, O5.out, S5.out⟩
            case measure =>
              rw [R5.out.rd.cell, RR.out.rd.cell]
              simp [ByteArray.size]
              omega
      · have HN := Lib.hid (HQ.out.trans (show _ = some (f, r) by rw [restP_stop hc]; simp [app_nil]))
        have AN := Lib.hid (accept_not b 32 r wr RR.out.rd hc)
        have HA := Lib.hid (show LiesF w.heap.size wr (.slice (some ⟨g, 0, none⟩) f.len cap) f by
          have hrow := HST.out wr (Nat.le_refl _) (fun _ _ _ _ _ => rfl)
          obtain ⟨_, h2⟩ := HOWN.out
          rcases h2 with ⟨h3, _⟩ | ⟨g1, cap1, cur, h3, hb1, hg1, hn1, hc1, _, _⟩
          · cases h3
          · cases h3
            exact .inr ⟨g, 0, cap, rfl, hn1, by omega, hb1, hgl.2, rowL_row f cs 0 hrow fun j u hj => by
              have := HOWN.out.cells (g := g) rfl j u hj
              rw [Go.WideShapes.add_plain] at this
              simpa using this⟩)
        clear hc
        go_wp2_with fail
        refine AN.out.mono ?_
        rintro e w2 ⟨rfl, hw⟩
        obtain rfl := hw.symm
        go_wp2_with fail
        go_ret
        exact .yes HN.out HA.out RR.out
theorem forestP_len : ∀ (n : Nat) (l : List UInt8) (g : Fo) (u : List UInt8), forestP n l = some (g, u) → u.length ≤ l.length
  | 0, _, _, _, h => by cases h
  | n + 1, l, g, u, h => by
    have HL := forestP_len n
    have hrest : ∀ (m : Nat) (l : List UInt8) (g : Fo) (u : List UInt8), restP (treeP (forestP n)) m l = some (g, u) → u.length ≤ l.length := by
      intro m
      induction m with
      | zero => intro l g u h; rw [restP] at h; have := (Prod.mk.inj (Option.some.inj h)).2; rw [this]; exact Nat.le_refl _
      | succ m ih =>
        intro l g u h
        by_cases hc : l.head? = some 32
        · cases l with
          | nil => cases hc
          | cons c t =>
            obtain rfl : c = 32 := by simpa using hc
            rw [restP_more] at h
            simp only [Option.bind_eq_some_iff, Option.map_eq_some_iff, Prod.mk.injEq, Prod.exists] at h
            obtain ⟨_, _, r, h1, _, _, h2, _, rfl⟩ := h
            have := treeP_len HL h1
            have := ih _ _ _ h2
            simp; omega
        · rw [restP_stop hc] at h
          have := (Prod.mk.inj (Option.some.inj h)).2
          rw [this]; exact Nat.le_refl _
    rw [forestP_eq] at h
    simp only [Option.bind_eq_some_iff, Option.map_eq_some_iff, Prod.mk.injEq, Prod.exists] at h
    obtain ⟨_, _, r, h1, _, _, h2, _, rfl⟩ := h
    have := treeP_len HL h1
    have := hrest _ _ _ _ h2
    omega
/-- a forest is read. -/
theorem forest_any (b : Nat) : ∀ (n : Nat), n ≤ 89000 → ∀ (l : List UInt8) (w : World), RdAt b l w → l.length ≤ n →
    Calls Tryz.prog 152 #[.pointer (some ⟨b, 0, none⟩)] w fun e w' => Got b w (forestP (n + 1) l) (fun f w' v => LiesF w.heap.size w' v f) e w'
  | 0, _, l, w, h, hl => by
    obtain rfl : l = [] := List.eq_nil_of_length_eq_zero (by omega)
    exact forest_step b (treeP (forestP 0)) _ [] w h (by simp) (fun t x u ht => treeP_len (forestP_len 0) ht)
      (fun t W hW ht => by
        obtain rfl : t = [] := List.eq_nil_of_length_eq_zero (by simpa using ht)
        exact tree_none b _ [] W hW (by simp) rfl) (forestP_eq _ _)
  | n + 1, hn, l, w, h, hl => by
    have IH := forest_any b n (by omega)
    exact forest_step b (treeP (forestP (n + 1))) _ l w h (by omega) (fun t x u ht => treeP_len (forestP_len (n + 1)) ht)
      (fun t W hW ht => tree_any b (forestP (n + 1)) n (by omega) (forestP_len (n + 1)) (fun t' W' h1 h2 => IH t' W' h1 h2) t W hW (by omega)) (forestP_eq _ _)
end Go.Proofs.YtcgedpfolloinaaGreat

namespace Go.Proofs.YtcgedpfolloinaaGreat
open Go.RowKit

set_option maxRecDepth 100000 in
/-- the deferred function of 'read', where the panic 'unexpected' goes through it. -/
theorem catch_unexpected (a b : Nat) (x y : Value) (older : List PanicEntry) (w : World) (hc : w.cell? ⟨a, 0, none⟩ = some x) (hz : w.frozen? ⟨a, 0, none⟩ = false) (hd : w.cell? ⟨b, 0, none⟩ = some y) (hy : w.frozen? ⟨b, 0, none⟩ = false) (hab : a < b) :
    CallsD Tryz.prog 151 #[.pointer (some ⟨a, 0, none⟩), .pointer (some ⟨b, 0, none⟩)] (.panicking ({ v := .iface 160 (.agg #[]), recovered := false } :: older)) w fun e u' w' =>
      e = .returned (.tuple #[]) ∧ u' = .panicking ({ v := .iface 160 (.agg #[]), recovered := true } :: older) ∧ w' = (w.setCell ⟨a, 0, none⟩ (.slice none 0 0)).setCell ⟨b, 0, none⟩ (.bool false) := by
  have hne : ∀ w, (binOp .neq 20 (.iface 160 (.agg #[])) .nilIface).run Tryz.prog w = .ok (.bool true) w := fun _ => by kernel_rfl
  have n1 : ¬ a = b := by omega
  have n2 : ¬ b = a := by omega
  refine callsD_of_wpS Tryz.func151 rfl fun c₀ cs hu => ?_
  apply wpS_seq
  apply wpS_region
  simp [wpOpsS, go_sem, recoverD, hu, Tryz.ntmps151, Exit.thenS]
  refine wpS_of_wp ?_
  clear hu
  change Code.wp _ _ _ { tmps := #[.pointer (some ⟨a, 0, none⟩), .pointer (some ⟨b, 0, none⟩), .iface 160 (.agg #[]), .bool true], defers := [] } _
  go_wp2
  simp [bodyPostS, results, Tryz.results151]

theorem catch_nothing (p q : Addr) (w : World) :
    CallsD Tryz.prog 151 #[.pointer (some p), .pointer (some q)] .returning w fun e u' w' => e = .returned (.tuple #[]) ∧ u' = .returning ∧ w' = w := by
  have hne : ∀ w, (binOp .neq 20 .nilIface .nilIface).run Tryz.prog w = .ok (.bool false) w := fun _ => by kernel_rfl
  refine callsD_of_wpS Tryz.func151 rfl fun c₀ cs hu => ?_
  apply wpS_seq
  apply wpS_region
  simp [wpOpsS, go_sem, recoverD, hu, Tryz.ntmps151, Exit.thenS]
  refine wpS_of_wp ?_
  change Code.wp _ _ _ { tmps := #[.pointer (some p), .pointer (some q), .nilIface, .bool false], defers := [] } _
  go_wp2
  cases c₀
  simp_all [bodyPostS, results, Tryz.results151]

/-- what reading a text gives. -/
def ReadRes (w : World) (o : Option Fo) (e : Ending) (w' : World) : Prop :=
  match o with
  | some f => ∃ v, e = .returned (.tuple #[v, .bool true]) ∧ LiesF w.heap.size w' v f ∧ Below w.heap.size w w'
  | none => e = .returned (.tuple #[.slice none 0 0, .bool false]) ∧ Below w.heap.size w w'

set_option maxRecDepth 100000 in
set_option maxHeartbeats 4000000 in
theorem read_any (l : List UInt8) (w : World) (hl : l.length ≤ 89000) :
    Calls Tryz.prog 114 #[.string ⟨l.toArray⟩] w fun e w' => ReadRes w (readP l) e w' := by
  have hmf : ∀ (fn : Fn) (first cap : Array Value) (w : World), (Instr.makeFunc fn first cap).run Tryz.prog w = .ok (.func fn first cap) w := fun _ _ _ _ => rfl
  cases l with
  | nil =>
    have HO := Lib.hid (show readP [] = some .nil from rfl)
    generalize readP [] = o at *
    go_enter_defers Tryz.func114, Tryz.ntmps114
    go_wp2_with fail
    refine leaves_cons (f := 151) (args := #[.pointer (some ⟨w.heap.size, 0, none⟩), .pointer (some ⟨w.heap.size + 1, 0, none⟩)]) (by simp) (by simp [go_sem]) ?_
    refine (catch_nothing ⟨w.heap.size, 0, none⟩ ⟨w.heap.size + 1, 0, none⟩ _).mono ?_
    rintro e u' w'' ⟨rfl, rfl, rfl⟩
    simp (maxDischargeDepth := 8) [Leaves, settle, results, Tryz.results114, go_sem]
    rw [HO.out]
    exact ⟨_, rfl, .inl ⟨_, _, rfl, rfl⟩, by ((repeat' (first | exact Below.refl _ _ | assumption | refine Below.setCell ?_ ?_ _ | refine bdrewN ?_ _ | refine Below.drew ?_ | refine Below.alloc ?_ ?_ _ | refine bbehind ?_ (by assumption) ?_)); all_goals first | (simp; done) | (simp; omega) | omega)⟩
  | cons c t =>
    have hie : (c :: t).isEmpty = false := rfl
    obtain ⟨l, hcl⟩ : ∃ l, c :: t = l := ⟨_, rfl⟩
    have HO := Lib.hid (show readP (c :: t) = (forestP (l.length + 1) l).bind (fun x => match x.2 with | [] => some x.1 | _ => none) by
      rw [← hcl]
      unfold readP
      simp only
      cases forestP ((c :: t).length + 1) (c :: t) with
      | none => rfl
      | some x =>
        obtain ⟨f, r⟩ := x
        cases r <;> rfl)
    rw [hcl] at hl hie ⊢
    rw [hcl] at HO
    generalize readP l = o at *
    clear hcl
    have FA := Lib.hid (fun W (h : RdAt (w.heap.size + 1 + 1) l W) => forest_any (w.heap.size + 1 + 1) l.length (by omega) l W h (Nat.le_refl _))
    go_enter_defers Tryz.func114, Tryz.ntmps114
    go_wp2_with fail
    have w3rd : RdAt (w.heap.size + 1 + 1) l (((w.alloc (.cells #[.slice none 0 0] 28)).alloc (.cells #[.bool false] 4)).alloc (.cells #[.string ⟨l.toArray⟩] 158)) := by
      have := World.alloc_heap_new ((w.alloc (.cells #[.slice none 0 0] 28)).alloc (.cells #[.bool false] 4)) (.cells #[.string ⟨l.toArray⟩] 158)
      simpa [RdAt] using this
    refine (FA.out _ w3rd).mono ?_
    have k0 : (((w.alloc (.cells #[.slice none 0 0] 28)).alloc (.cells #[.bool false] 4)).alloc (.cells #[.string ⟨l.toArray⟩] 158)).heap[w.heap.size]? = some (.cells #[.slice none 0 0] 28 (0, 0)) := by
      rw [Below.heap_alloc _ _ _ (by simp; omega), Below.heap_alloc _ _ _ (by simp)]; exact World.alloc_heap_new _ _
    have k1 : (((w.alloc (.cells #[.slice none 0 0] 28)).alloc (.cells #[.bool false] 4)).alloc (.cells #[.string ⟨l.toArray⟩] 158)).heap[w.heap.size + 1]? = some (.cells #[.bool false] 4 (0, 0)) := by
      rw [Below.heap_alloc _ _ _ (by simp)]
      have := World.alloc_heap_new (w.alloc (.cells #[.slice none 0 0] 28)) (.cells #[.bool false] 4)
      simpa using this
    have B3 : Below w.heap.size w (((w.alloc (.cells #[.slice none 0 0] 28)).alloc (.cells #[.bool false] 4)).alloc (.cells #[.string ⟨l.toArray⟩] 158)) := by ((repeat' (first | exact Below.refl _ _ | assumption | refine Below.setCell ?_ ?_ _ | refine bdrewN ?_ _ | refine Below.drew ?_ | refine Below.alloc ?_ ?_ _ | refine bbehind ?_ (by assumption) ?_)); all_goals first | (simp; done) | (simp; omega) | omega)
    have hs3 : (((w.alloc (.cells #[.slice none 0 0] 28)).alloc (.cells #[.bool false] 4)).alloc (.cells #[.string ⟨l.toArray⟩] 158)).heap.size = w.heap.size + 3 := by simp
    generalize ((w.alloc (.cells #[.slice none 0 0] 28)).alloc (.cells #[.bool false] 4)).alloc (.cells #[.string ⟨l.toArray⟩] 158) = w3 at *
    rintro e w4 hq
    have facts : ∀ r, Rd (w.heap.size + 1 + 1) r w3 w4 → w4.cell? ⟨w.heap.size, 0, none⟩ = some (.slice none 0 0) ∧ w4.frozen? ⟨w.heap.size, 0, none⟩ = false ∧ w4.cell? ⟨w.heap.size + 1, 0, none⟩ = some (.bool false) ∧ w4.frozen? ⟨w.heap.size + 1, 0, none⟩ = false ∧ Below w.heap.size w w4 := by
      intro r hr
      have j0 := (hr.oth w.heap.size (by omega) (by omega)).trans k0
      have j1 := (hr.oth (w.heap.size + 1) (by omega) (by omega)).trans k1
      exact ⟨cell_of_block j0 rfl, frozen_of_block j0, cell_of_block j1 rfl, frozen_of_block j1, B3.trans (hr.bel.mono (by omega))⟩
    cases hqo : forestP (l.length + 1) l with
    | none =>
      have HX := Lib.hid (HO.out.trans (by rw [hqo] <;> rfl))
      obtain ⟨rfl, t2, hr⟩ := hq.panic hqo
      obtain ⟨c0, f0, c1, f1, B4⟩ := facts _ hr
      clear hq hqo facts hr w3rd
      have hlt : w.heap.size < w.heap.size + 1 := by omega
      go_wp2_with fail
      refine leaves_cons (f := 151) (args := #[.pointer (some ⟨w.heap.size, 0, none⟩), .pointer (some ⟨w.heap.size + 1, 0, none⟩)]) (by simp) (by simp [go_sem]) ?_
      refine (catch_unexpected w.heap.size (w.heap.size + 1) _ _ _ _ c0 f0 c1 f1 hlt).mono ?_
      rintro e u' w'' ⟨rfl, rfl, rfl⟩
      simp (maxDischargeDepth := 8) [Leaves, settle, results, Tryz.results114, go_sem, c0, c1]
      rw [HX.out]
      exact ⟨rfl, (B4.setCell (p := ⟨w.heap.size, 0, none⟩) (Nat.le_refl _) _).setCell (p := ⟨w.heap.size + 1, 0, none⟩) (Nat.le_succ _) _⟩
    | some x =>
      obtain ⟨f, r⟩ := x
      obtain ⟨v, rfl, hv, hr⟩ := hq.take hqo
      have rd := hr.rd.cell
      have fd := hr.rd.frozen
      obtain ⟨c0, f0, c1, f1, B4⟩ := facts _ hr
      have hlt : w.heap.size < w.heap.size + 1 := by omega
      have HV := Lib.hid hv
      have hs4 := hr.bel.size
      cases r with
      | nil =>
        have HX := Lib.hid (HO.out.trans (show _ = some f by rw [hqo] <;> rfl))
        clear hq hqo facts hr w3rd hv
        obtain ⟨aa, cap, rfl⟩ := liesF_form HV.out
        go_wp2_with fail
        refine leaves_cons (f := 151) (args := #[.pointer (some ⟨w.heap.size, 0, none⟩), .pointer (some ⟨w.heap.size + 1, 0, none⟩)]) (by simp) (by simp [go_sem]) ?_
        refine (catch_nothing ⟨w.heap.size, 0, none⟩ ⟨w.heap.size + 1, 0, none⟩ _).mono ?_
        rintro e u' w'' ⟨rfl, rfl, rfl⟩
        simp (maxDischargeDepth := 8) [Leaves, settle, results, Tryz.results114, go_sem, c0, c1]
        rw [HX.out]
        have hk : Keeps w3.heap.size w4 (((w4.setCell ⟨w.heap.size, 0, none⟩ (.slice aa f.len cap)).setCell ⟨w.heap.size, 0, none⟩ (.slice aa f.len cap)).setCell ⟨w.heap.size + 1, 0, none⟩ (.bool true)) :=
          ((Keeps.setCell _ (by omega) _ _).trans (Keeps.setCell _ (by omega) _ _)).trans (Keeps.setCell _ (by omega) _ _)
        exact ⟨_, rfl, liesF_mono (by omega) (liesF_keeps HV.out hk), ((B4.setCell (p := ⟨w.heap.size, 0, none⟩) (Nat.le_refl _) _).setCell (p := ⟨w.heap.size, 0, none⟩) (Nat.le_refl _) _).setCell (p := ⟨w.heap.size + 1, 0, none⟩) (Nat.le_succ _) _⟩
      | cons c t =>
        have HX := Lib.hid (HO.out.trans (show _ = none by rw [hqo] <;> rfl))
        clear hq hqo facts hr w3rd hv
        obtain ⟨aa, cap, rfl⟩ := liesF_form HV.out
        clear HV
        have hie2 : (c :: t).isEmpty = false := rfl
        go_wp2_with fail
        refine leaves_cons (f := 151) (args := #[.pointer (some ⟨w.heap.size, 0, none⟩), .pointer (some ⟨w.heap.size + 1, 0, none⟩)]) (by simp) (by simp [go_sem]) ?_
        refine (catch_unexpected w.heap.size (w.heap.size + 1) (.slice aa f.len cap) (.bool false) _ _ (by simp [go_sem, c0]) (by simp [go_sem, f0]) (by simp [go_sem, c1]) (by simp [go_sem, f1]) hlt).mono ?_
        rintro e u' w'' ⟨rfl, rfl, rfl⟩
        simp (maxDischargeDepth := 8) [Leaves, settle, results, Tryz.results114, go_sem, c0, c1]
        rw [HX.out]
        exact ⟨rfl, by ((repeat' (first | exact Below.refl _ _ | assumption | refine Below.setCell ?_ ?_ _ | refine bdrewN ?_ _ | refine Below.drew ?_ | refine Below.alloc ?_ ?_ _ | refine bbehind ?_ (by assumption) ?_)); all_goals first | (simp; done) | (simp; omega) | omega)⟩
end Go.Proofs.YtcgedpfolloinaaGreat

namespace Go.Proofs.YtcgedpfolloinaaGreat
open Go.RowKit

def hdN (N : Nat) (h : Hd) : Prop := h.l.length ≤ N ∧ h.x.length ≤ N ∧ ∀ q ∈ h.ats, q.1.length ≤ N ∧ q.2.length ≤ N
def foN (N : Nat) : Fo → Prop
  | .nil => True
  | .cons h ks r => hdN N h ∧ foN N ks ∧ foN N r
theorem hdN.mono {N M : Nat} {h : Hd} (H : hdN N h) (hm : N ≤ M) : hdN M h := ⟨Nat.le_trans H.1 hm, Nat.le_trans H.2.1 hm, fun q hq => ⟨Nat.le_trans (H.2.2 q hq).1 hm, Nat.le_trans (H.2.2 q hq).2 hm⟩⟩
theorem foN_mono {N M : Nat} (hm : N ≤ M) : ∀ {f : Fo}, foN N f → foN M f
  | .nil, _ => trivial
  | .cons _ _ _, H => ⟨H.1.mono hm, foN_mono hm H.2.1, foN_mono hm H.2.2⟩
theorem beginP_fit {l r : List UInt8} {h : Hd} (hb : beginP l = some (h, r)) : hdN l.length h := by
  cases l with
  | nil => cases hb
  | cons c t =>
    by_cases h34 : c.toNat = 34
    · rw [show beginP (c :: t) = (quoP (c :: t)).map fun x => (⟨2, [], [], 0, 0, x.1⟩, x.2) by unfold beginP; simp [h34]] at hb
      simp only [Option.map_eq_some_iff, Prod.mk.injEq, Prod.exists] at hb
      obtain ⟨s, r', h1, rfl, _⟩ := hb
      have := quoP_len h1
      exact ⟨Nat.zero_le _, by simp only; omega, fun q hq => by simp at hq⟩
    · by_cases hd : c.toNat = 45 ∨ digitB c = true
      · rw [show beginP (c :: t) = (figP (c :: t)).map fun x => (⟨1, [], [], x.1.1, x.1.2, []⟩, x.2) by unfold beginP; simp only [if_neg h34, if_pos hd]] at hb
        simp only [Option.map_eq_some_iff, Prod.mk.injEq, Prod.exists] at hb
        obtain ⟨n, d, r', _, rfl, _⟩ := hb
        exact ⟨Nat.zero_le _, Nat.zero_le _, fun q hq => by simp at hq⟩
      · rw [show beginP (c :: t) = if wordLen (c :: t) = 0 then none else some (⟨0, (c :: t).take (wordLen (c :: t)), [], 0, 0, []⟩, (c :: t).drop (wordLen (c :: t))) by unfold beginP; simp only [if_neg h34, if_neg hd]] at hb
        by_cases h0 : wordLen (c :: t) = 0
        · rw [if_pos h0] at hb; cases hb
        · rw [if_neg h0] at hb
          have h4 := (Prod.mk.inj (Option.some.inj hb)).1
          rw [← h4]
          exact ⟨by simp only [List.length_take]; omega, Nat.zero_le _, fun q hq => by simp at hq⟩
theorem attrP_fit {l r : List UInt8} {a : List UInt8 × List UInt8} (h : attrP l = some (a, r)) : a.1.length ≤ l.length ∧ a.2.length ≤ l.length := by
  unfold attrP at h
  by_cases h0 : wordLen l = 0
  · rw [if_pos h0] at h; cases h
  · rw [if_neg h0] at h
    cases hd : l.drop (wordLen l) with
    | nil => rw [hd] at h; cases h
    | cons c t =>
      rw [hd] at h
      simp only at h
      have hlen := congrArg List.length hd
      simp at hlen
      by_cases hc : c.toNat = 61
      · rw [if_pos hc] at h
        simp only [Option.map_eq_some_iff, Prod.mk.injEq, Prod.exists] at h
        obtain ⟨s, r', hq, rfl, _⟩ := h
        have := quoP_len hq
        exact ⟨by simp only [List.length_take]; omega, by simp only; omega⟩
      · rw [if_neg hc] at h; cases h
theorem attrsP_fit : ∀ (n : Nat) {l r : List UInt8} {a : List (List UInt8 × List UInt8)}, attrsP n l = some (a, r) → ∀ q ∈ a, q.1.length ≤ l.length ∧ q.2.length ≤ l.length
  | 0, l, r, a, h => by simp [attrsP] at h; rw [h.1]; intro q hq; cases hq
  | n + 1, l, r, a, h => by
    by_cases hc : l.head? = some 44
    · cases l with
      | nil => cases hc
      | cons c t =>
        rw [attrsP_more (by rw [show c = 44 by simpa using hc]; rfl)] at h
        cases hq : attrP t with
        | none => rw [hq] at h; cases h
        | some x =>
          obtain ⟨a1, r1⟩ := x
          rw [hq] at h
          simp only [Option.map_eq_some_iff, Prod.mk.injEq, Prod.exists] at h
          obtain ⟨a2, r2, h2, rfl, rfl⟩ := h
          have h3 := attrsP_fit n h2
          have h4 := attrP_len hq
          have h5 := attrP_fit hq
          intro q hm
          rcases List.mem_cons.1 hm with rfl | hm
          · simp; omega
          · have := h3 q hm
            simp; omega
    · rw [attrsP_stop hc] at h
      simp at h
      rw [h.1]; intro q hq; cases hq
theorem attributesP_fit {l r : List UInt8} {a : List (List UInt8 × List UInt8)} (h : attributesP l = some (a, r)) : ∀ q ∈ a, q.1.length ≤ l.length ∧ q.2.length ≤ l.length := by
  unfold attributesP at h
  cases hq : attrP l with
  | none => rw [hq] at h; cases h
  | some x =>
    obtain ⟨a1, r1⟩ := x
    rw [hq] at h
    simp only [Option.map_eq_some_iff, Prod.mk.injEq, Prod.exists] at h
    obtain ⟨a2, r2, h2, rfl, rfl⟩ := h
    have h3 := attrsP_fit _ h2
    have h4 := attrP_len hq
    have h5 := attrP_fit hq
    intro q hm
    rcases List.mem_cons.1 hm with rfl | hm
    · exact h5
    · have := h3 q hm
      omega
theorem expP_same {α : Type} {k : Nat} {x y : α} {l r : List UInt8} (h : expP k x l = some (y, r)) : y = x := by
  cases l with
  | nil => cases h
  | cons c t =>
    rw [show expP k x (c :: t) = if c.toNat = k then some (x, t) else none from rfl] at h
    by_cases hc : c.toNat = k
    · rw [if_pos hc] at h
      exact ((Prod.mk.inj (Option.some.inj h)).1).symm
    · rw [if_neg hc] at h; cases h
theorem optA_fit {l r : List UInt8} {a : List (List UInt8 × List UInt8)} (h : optA l = some (a, r)) : ∀ q ∈ a, q.1.length ≤ l.length ∧ q.2.length ≤ l.length := by
  by_cases hc : l.head? = some 40
  · cases l with
    | nil => cases hc
    | cons c t =>
      obtain rfl : c = 40 := by simpa using hc
      rw [show optA (40 :: t) = (attributesP t).bind fun x => expP 41 x.1 x.2 from rfl] at h
      simp only [Option.bind_eq_some_iff, Prod.exists] at h
      obtain ⟨a1, r1, h1, h2⟩ := h
      obtain rfl := expP_same h2
      have := attributesP_fit h1
      intro q hq
      have := this q hq
      simp; omega
  · rw [optA_no hc] at h
    have := (Prod.mk.inj (Option.some.inj h)).1
    rw [← this]; intro q hq; cases hq
/-- so much of a text is a forest. -/
def FitF (F : List UInt8 → Option (Fo × List UInt8)) : Prop := ∀ t g u, F t = some (g, u) → g.size + u.length ≤ t.length ∧ foN t.length g
theorem optK_fit {F : List UInt8 → Option (Fo × List UInt8)} (HF : FitF F) {l r : List UInt8} {g : Fo} (h : optK F l = some (g, r)) : g.size + r.length ≤ l.length ∧ foN l.length g := by
  by_cases hc : l.head? = some 123
  · cases l with
    | nil => cases hc
    | cons c t =>
      obtain rfl : c = 123 := by simpa using hc
      rw [show optK F (123 :: t) = (F t).bind fun x => expP 125 x.1 x.2 from rfl] at h
      simp only [Option.bind_eq_some_iff, Prod.exists] at h
      obtain ⟨a1, r1, h1, h2⟩ := h
      obtain rfl := expP_same h2
      have h3 := HF _ _ _ h1
      have := expP_len h2
      exact ⟨by simp; omega, foN_mono (by simp) h3.2⟩
  · rw [optK_no hc] at h
    have h1 := Prod.mk.inj (Option.some.inj h)
    rw [← h1.1, ← h1.2]
    exact ⟨by simp [Fo.size], trivial⟩
theorem treeP_fit {F : List UInt8 → Option (Fo × List UInt8)} (HF : FitF F) {l r : List UInt8} {x : Hd × Fo} (h : treeP F l = some (x, r)) : x.2.size + r.length + 1 ≤ l.length ∧ hdN l.length x.1 ∧ foN l.length x.2 := by
  cases hb : beginP l with
  | none => rw [treeP_none hb] at h; cases h
  | some y =>
    obtain ⟨hd, r0⟩ := y
    have hl := beginP_len hb
    have hf := beginP_fit hb
    rcases beginP_form hb with ⟨s, rfl⟩ | ⟨n, d, rfl⟩ | ⟨s, rfl⟩
    · rw [treeP_word hb] at h
      simp only [Option.bind_eq_some_iff, Option.map_eq_some_iff, Prod.mk.injEq, Prod.exists] at h
      obtain ⟨a, r1, h1, g, r2, h2, rfl, rfl⟩ := h
      have h3 := optA_len h1
      have h4 := optA_fit h1
      have h5 := optK_fit HF h2
      refine ⟨by simp only; omega, ⟨hf.1, Nat.zero_le _, fun q hq => ?_⟩, foN_mono (by omega) h5.2⟩
      have := h4 q hq
      omega
    · rw [treeP_leaf hb (by simp)] at h
      have h1 := Prod.mk.inj (Option.some.inj h)
      rw [← h1.1, ← h1.2]
      exact ⟨by simp [Fo.size]; omega, hf, trivial⟩
    · rw [treeP_leaf hb (by simp)] at h
      have h1 := Prod.mk.inj (Option.some.inj h)
      rw [← h1.1, ← h1.2]
      exact ⟨by simp [Fo.size]; omega, hf, trivial⟩
theorem restP_fit {F : List UInt8 → Option (Fo × List UInt8)} (HF : FitF F) : ∀ (m : Nat) (l : List UInt8) (g : Fo) (u : List UInt8), restP (treeP F) m l = some (g, u) → g.size + u.length ≤ l.length ∧ foN l.length g
  | 0, l, g, u, h => by
    rw [restP] at h
    have h1 := Prod.mk.inj (Option.some.inj h)
    rw [← h1.1, ← h1.2]
    exact ⟨by simp [Fo.size], trivial⟩
  | m + 1, l, g, u, h => by
    by_cases hc : l.head? = some 32
    · cases l with
      | nil => cases hc
      | cons c t =>
        obtain rfl : c = 32 := by simpa using hc
        rw [restP_more] at h
        simp only [Option.bind_eq_some_iff, Option.map_eq_some_iff, Prod.mk.injEq, Prod.exists] at h
        obtain ⟨hd, ks, r, h1, g2, u2, h2, rfl, rfl⟩ := h
        have h3 := treeP_fit HF h1
        have h4 := restP_fit HF m _ _ _ h2
        simp only at h3
        refine ⟨by simp [Fo.size]; omega, h3.2.1.mono (by simp), foN_mono (by simp) h3.2.2, foN_mono (by simp; omega) h4.2⟩
    · rw [restP_stop hc] at h
      have h1 := Prod.mk.inj (Option.some.inj h)
      rw [← h1.1, ← h1.2]
      exact ⟨by simp [Fo.size], trivial⟩
theorem forestP_fit : ∀ n : Nat, FitF (forestP n)
  | 0 => fun _ _ _ h => by cases h
  | n + 1 => fun l g u h => by
    have HF := forestP_fit n
    rw [forestP_eq] at h
    simp only [Option.bind_eq_some_iff, Option.map_eq_some_iff, Prod.mk.injEq, Prod.exists] at h
    obtain ⟨hd, ks, r, h1, g2, u2, h2, rfl, rfl⟩ := h
    have h3 := treeP_fit HF h1
    have h4 := restP_fit HF _ _ _ _ h2
    simp only at h3
    refine ⟨by simp [Fo.size]; omega, h3.2.1, h3.2.2, foN_mono (by omega) h4.2⟩
theorem readP_fit {l : List UInt8} {f : Fo} (h : readP l = some f) : f.size ≤ l.length ∧ foN l.length f := by
  cases l with
  | nil => cases h; exact ⟨Nat.le_refl _, trivial⟩
  | cons c t =>
    unfold readP at h
    simp only at h
    cases hq : forestP ((c :: t).length + 1) (c :: t) with
    | none => rw [hq] at h; cases h
    | some x =>
      obtain ⟨g, r⟩ := x
      rw [hq] at h
      cases r with
      | nil =>
        have := forestP_fit _ _ _ _ hq
        cases h
        exact ⟨by simpa using this.1, this.2⟩
      | cons _ _ => cases h
theorem deep_size : ∀ f : Fo, f.deep ≤ f.size
  | .nil => Nat.le_refl _
  | .cons h ks r => by have := deep_size ks; have := deep_size r; simp only [Fo.deep, Fo.size]; omega
theorem deepL_eq : ∀ (f : Fo) (n : Int), f.size ≤ 100000 → deepL n f = max n (f.deep : Int) ∨ (f = .nil ∧ deepL n f = n)
  | .nil, n, _ => .inr ⟨rfl, rfl⟩
  | .cons h ks r, n, hs => by
    left
    have hz : ks.size + r.size + 1 ≤ 100000 := by simp only [Fo.size] at hs; omega
    have hd := deep_size ks
    have h1 : deepL 0 ks = (ks.deep : Int) := by
      rcases deepL_eq ks 0 (by omega) with e | ⟨e, e2⟩
      · rw [e]; omega
      · rw [e2, e]; rfl
    have h2 : wrap64 (1 + deepL 0 ks) = 1 + (ks.deep : Int) := by
      rw [h1]; unfold wrap64; omega
    simp only [deepL, h2]
    rcases deepL_eq r (max n (1 + (ks.deep : Int))) (by omega) with e | ⟨e, e2⟩
    · rw [e]; simp only [Fo.deep]; omega
    · rw [e2, e]; simp only [Fo.deep]; omega
theorem foN_fit {N : Nat} (hN : N ≤ 1000000) : ∀ f : Fo, foN N f → foFit f
  | .nil, _ => trivial
  | .cons h ks r, H => by
    refine ⟨⟨Nat.le_trans H.1.1 hN, Nat.le_trans H.1.2.1 hN, fun j hj => ?_⟩, foN_fit hN ks H.2.1, foN_fit hN r H.2.2⟩
    have : h.ats.getD j ([], []) ∈ h.ats := by
      rw [List.getD_eq_getElem?_getD, List.getElem?_eq_getElem hj, Option.getD_some]
      exact List.getElem_mem _
    exact ⟨Nat.le_trans (H.1.2.2 _ this).1 hN, Nat.le_trans (H.1.2.2 _ this).2 hN⟩
theorem small_foN {N : Nat} (hN : N ≤ 100000) {f : Fo} (hs : f.size ≤ N) (hf : foN N f) : Small f := by
  refine ⟨by omega, by have := deep_size f; omega, ?_, foN_fit (by omega) f hf⟩
  rcases deepL_eq f 0 (by omega) with e | ⟨e, e2⟩
  · rw [e]; omega
  · rw [e2, e]; rfl
theorem readP_small {l : List UInt8} {f : Fo} (hl : l.length ≤ 100000) (h : readP l = some f) : Small f := small_foN hl (readP_fit h).1 (readP_fit h).2
end Go.Proofs.YtcgedpfolloinaaGreat

namespace Go.Proofs.YtcgedpfolloinaaGreat
open Go.RowKit

/-- the forest F of the examples. -/
def numHd (n d : Int) : Hd := ⟨1, [], [], n, d, []⟩
def exF : Fo :=
  .cons ⟨0, [100, 111, 99], [([108, 97, 110, 103], [101, 110])], 0, 0, []⟩
    (.cons ⟨2, [], [], 0, 0, [104, 105]⟩ .nil
      (.cons ⟨0, [98], [], 0, 0, []⟩ (.cons (numHd 3 4) .nil (.cons (numHd (-2) 1) .nil .nil))
        (.cons ⟨0, [98], [], 0, 0, []⟩ .nil .nil)))
    (.cons (numHd 7 1) .nil .nil)

theorem allocs_keep : ∀ (os : List Obj) (w : World) (k : Nat), k < w.heap.size → (os.foldl World.alloc w).heap[k]? = w.heap[k]?
  | [], _, _, _ => rfl
  | o :: os, w, k, h => (allocs_keep os (w.alloc o) k (by simp; omega)).trans (Below.heap_alloc w o k h)
theorem allocs_heap : ∀ (os : List Obj) (w : World) (i : Nat) (o : Obj), os[i]? = some o → (os.foldl World.alloc w).heap[w.heap.size + i]? = some o
  | [], _, _, _, h => by simp at h
  | x :: os, w, 0, o, h => by
    simp only [List.getElem?_cons_zero, Option.some.injEq] at h
    subst h
    exact (allocs_keep os (w.alloc x) w.heap.size (by simp)).trans (World.alloc_heap_new _ _)
  | x :: os, w, i + 1, o, h => by
    have := allocs_heap os (w.alloc x) i o (by simpa using h)
    rw [show (w.alloc x).heap.size = w.heap.size + 1 by simp] at this
    rw [show w.heap.size + (i + 1) = w.heap.size + 1 + i by omega]
    exact this
theorem allocs_size : ∀ (os : List Obj) (w : World), (os.foldl World.alloc w).heap.size = w.heap.size + os.length
  | [], _ => rfl
  | o :: os, w => by rw [List.foldl_cons, allocs_size os]; simp; omega
theorem allocs_below : ∀ (os : List Obj) (w : World) (B : Nat) (w0 : World), B ≤ w.heap.size → Below B w0 w → Below B w0 (os.foldl World.alloc w)
  | [], _, _, _, _, h => h
  | o :: os, w, B, w0, hB, h => allocs_below os (w.alloc o) B w0 (by simp; omega) (h.alloc hB o)
/-- what the example lays. -/
def exObjs (w : World) : List Obj := [.cells #[.int .i64 1, .string ⟨#[]⟩, .slice none 0 0, .int .i64 3, .int .i64 4, .string ⟨#[]⟩, .slice none 0 0] 43,
    .cells #[.int .i64 1, .string ⟨#[]⟩, .slice none 0 0, .int .i64 (-2), .int .i64 1, .string ⟨#[]⟩, .slice none 0 0] 43,
    .cells #[.int .i64 2, .string ⟨#[]⟩, .slice none 0 0, .int .i64 0, .int .i64 0, .string ⟨#[104, 105]⟩, .slice none 0 0] 43,
    .cells #[.int .i64 1, .string ⟨#[]⟩, .slice none 0 0, .int .i64 3, .int .i64 4, .string ⟨#[]⟩, .slice none 0 0, .int .i64 1, .string ⟨#[]⟩, .slice none 0 0, .int .i64 (-2), .int .i64 1, .string ⟨#[]⟩, .slice none 0 0] 43,
    .cells #[.int .i64 0, .string ⟨#[98]⟩, .slice none 0 0, .int .i64 0, .int .i64 0, .string ⟨#[]⟩, .slice (some ⟨w.heap.size + 1 + 1 + 1, 0, none⟩) 2 2] 43,
    .cells #[.string ⟨#[108, 97, 110, 103]⟩, .string ⟨#[101, 110]⟩] 81,
    .cells #[.int .i64 2, .string ⟨#[]⟩, .slice none 0 0, .int .i64 0, .int .i64 0, .string ⟨#[104, 105]⟩, .slice none 0 0, .int .i64 0, .string ⟨#[98]⟩, .slice none 0 0, .int .i64 0, .int .i64 0, .string ⟨#[]⟩, .slice (some ⟨w.heap.size + 1 + 1 + 1, 0, none⟩) 2 2, .int .i64 0, .string ⟨#[98]⟩, .slice none 0 0, .int .i64 0, .int .i64 0, .string ⟨#[]⟩, .slice none 0 0] 43,
    .cells #[.int .i64 0, .string ⟨#[100, 111, 99]⟩, .slice (some ⟨w.heap.size + 1 + 1 + 1 + 1 + 1, 0, none⟩) 1 1, .int .i64 0, .int .i64 0, .string ⟨#[]⟩, .slice (some ⟨w.heap.size + 1 + 1 + 1 + 1 + 1 + 1, 0, none⟩) 3 3] 43,
    .cells #[.int .i64 0, .string ⟨#[100, 111, 99]⟩, .slice (some ⟨w.heap.size + 1 + 1 + 1 + 1 + 1, 0, none⟩) 1 1, .int .i64 0, .int .i64 0, .string ⟨#[]⟩, .slice (some ⟨w.heap.size + 1 + 1 + 1 + 1 + 1 + 1, 0, none⟩) 3 3, .int .i64 1, .string ⟨#[]⟩, .slice none 0 0, .int .i64 7, .int .i64 1, .string ⟨#[]⟩, .slice none 0 0] 43]

set_option maxRecDepth 100000 in
theorem exF_lies (w : World) : Lies ((exObjs w).foldl World.alloc w) (.slice (some ⟨w.heap.size + 1 + 1 + 1 + 1 + 1 + 1 + 1 + 1, 0, none⟩) 2 2) exF := by
  have h3 := allocs_heap (exObjs w) w 3 _ rfl
  have h5 := allocs_heap (exObjs w) w 5 _ rfl
  have h6 := allocs_heap (exObjs w) w 6 _ rfl
  have h8 := allocs_heap (exObjs w) w 8 _ rfl
  have hz : ((exObjs w).foldl World.alloc w).heap.size = w.heap.size + 9 := allocs_size _ _
  generalize (exObjs w).foldl World.alloc w = W at *
  refine .inr ⟨_, 0, 2, rfl, by decide, by decide, by omega, ?_⟩
  refine ⟨⟨cell_of_block h8 rfl, cell_of_block h8 rfl, ⟨_, cell_of_block h8 rfl, .inr ⟨_, 0, 1, rfl, by decide, by decide, by omega, ?a⟩⟩, cell_of_block h8 rfl, cell_of_block h8 rfl, cell_of_block h8 rfl⟩, ⟨_, cell_of_block h8 rfl, .inr ⟨_, 0, 3, rfl, by decide, by decide, by omega, ?b⟩⟩,
    ⟨⟨cell_of_block h8 rfl, cell_of_block h8 rfl, ⟨_, cell_of_block h8 rfl, .inl ⟨_, _, rfl, rfl⟩⟩, cell_of_block h8 rfl, cell_of_block h8 rfl, cell_of_block h8 rfl⟩, ⟨_, cell_of_block h8 rfl, .inl ⟨_, _, rfl, rfl⟩⟩, trivial⟩⟩
  case a =>
    intro k hk
    obtain rfl : k = 0 := by simp at hk; omega
    exact ⟨cell_of_block h5 rfl, cell_of_block h5 rfl⟩
  case b =>
    refine ⟨⟨cell_of_block h6 rfl, cell_of_block h6 rfl, ⟨_, cell_of_block h6 rfl, .inl ⟨_, _, rfl, rfl⟩⟩, cell_of_block h6 rfl, cell_of_block h6 rfl, cell_of_block h6 rfl⟩, ⟨_, cell_of_block h6 rfl, .inl ⟨_, _, rfl, rfl⟩⟩,
      ⟨⟨cell_of_block h6 rfl, cell_of_block h6 rfl, ⟨_, cell_of_block h6 rfl, .inl ⟨_, _, rfl, rfl⟩⟩, cell_of_block h6 rfl, cell_of_block h6 rfl, cell_of_block h6 rfl⟩, ⟨_, cell_of_block h6 rfl, .inr ⟨_, 0, 2, rfl, by decide, by decide, by omega, ?c⟩⟩,
        ⟨⟨cell_of_block h6 rfl, cell_of_block h6 rfl, ⟨_, cell_of_block h6 rfl, .inl ⟨_, _, rfl, rfl⟩⟩, cell_of_block h6 rfl, cell_of_block h6 rfl, cell_of_block h6 rfl⟩, ⟨_, cell_of_block h6 rfl, .inl ⟨_, _, rfl, rfl⟩⟩, trivial⟩⟩⟩
    refine ⟨⟨cell_of_block h3 rfl, cell_of_block h3 rfl, ⟨_, cell_of_block h3 rfl, .inl ⟨_, _, rfl, rfl⟩⟩, cell_of_block h3 rfl, cell_of_block h3 rfl, cell_of_block h3 rfl⟩, ⟨_, cell_of_block h3 rfl, .inl ⟨_, _, rfl, rfl⟩⟩,
      ⟨⟨cell_of_block h3 rfl, cell_of_block h3 rfl, ⟨_, cell_of_block h3 rfl, .inl ⟨_, _, rfl, rfl⟩⟩, cell_of_block h3 rfl, cell_of_block h3 rfl, cell_of_block h3 rfl⟩, ⟨_, cell_of_block h3 rfl, .inl ⟨_, _, rfl, rfl⟩⟩, trivial⟩⟩

set_option maxRecDepth 100000 in
set_option maxHeartbeats 2000000 in
theorem example_any (w : World) : Calls Tryz.prog 71 #[] w fun e w' => ∃ a, e = .returned (.slice a 2 2) ∧ Lies w' (.slice a 2 2) exF ∧ Below w.heap.size w w' := by
  have HX := Lib.hid (exF_lies w)
  have HB := Lib.hid (allocs_below (exObjs w) w w.heap.size w (Nat.le_refl _) (Below.refl _ _))
  go_enter Tryz.func71, Tryz.ntmps71
  go_wp2_with fail
  go_ret
  exact ⟨_, rfl, HX.out, HB.out⟩
end Go.Proofs.YtcgedpfolloinaaGreat

namespace Go.Proofs.YtcgedpfolloinaaGreat
open Go.RowKit

/-- what Parse gives: a forest, and an error. -/
def parsed (l : List UInt8) : Fo × Int :=
  if 20000 < l.length then (.nil, 8) else
    match readP l with
    | none => (.nil, 1)
    | some f => if foErr f = 0 then (f, 0) else (.nil, foErr f)

set_option maxRecDepth 100000 in
set_option maxHeartbeats 2000000 in
theorem tparse_any (l : List UInt8) (w : World) (hl : l.length ≤ 89000) :
    Calls Tryz.prog 58 #[.string ⟨l.toArray⟩] w fun e w' => ∃ v, e = .returned (.tuple #[v, .int .i64 (parsed l).2]) ∧ LiesF w.heap.size w' v (parsed l).1 ∧ Below w.heap.size w w' := by
  obtain ⟨p, hp⟩ : ∃ p, parsed l = p := ⟨_, rfl⟩
  rw [hp]
  have HP := Lib.hid hp.symm
  by_cases h2 : 20000 < l.length
  · have d : decide ((20000 : Int) < (l.length : Int)) = true := by simp; omega
    have HX := HP.out.trans (if_pos h2)
    subst HX
    clear h2 hp HP
    go_enter Tryz.func58, Tryz.ntmps58
    go_wp2_with fail
    go_ret2
    exact ⟨_, rfl, .inl ⟨_, _, rfl, rfl⟩, Below.refl _ _⟩
  · have d : decide ((20000 : Int) < (l.length : Int)) = false := by simp; omega
    have HX := Lib.hid (HP.out.trans (if_neg h2))
    have R := Lib.hid (read_any l w hl)
    have SM := Lib.hid (fun f => readP_small (f := f) (show l.length ≤ 100000 by omega))
    clear h2 hp
    cases ho : readP l with
    | none =>
      have HY := HX.out.trans (by rw [ho])
      rw [ho] at R
      subst HY
      clear ho SM HX HP
      go_enter Tryz.func58, Tryz.ntmps58
      go_wp2_with fail
      refine R.out.mono ?_
      rintro e w1 ⟨rfl, hb1⟩
      go_wp2_with fail
      go_ret2
      exact ⟨_, rfl, .inl ⟨_, _, rfl, rfl⟩, hb1⟩
    | some f =>
      have SF := SM.out f ho
      rw [ho] at R
      have C := Lib.hid (fun w1 v (hv : LiesF w.heap.size w1 v f) => tcheck_any f v w1 (liesF_lies hv) SF)
      by_cases h0 : foErr f = 0
      · have HY := HX.out.trans (show _ = (f, 0) by rw [ho]; exact if_pos h0)
        subst HY
        rw [h0] at C
        clear ho h0 HX HP SM SF
        go_enter Tryz.func58, Tryz.ntmps58
        go_wp2_with fail
        refine R.out.mono ?_
        rintro e w1 ⟨v, rfl, hv, hb1⟩
        have HV := Lib.hid hv
        have HB := Lib.hid hb1
        have hs1 := hb1.size
        clear hv hb1
        go_wp2_with fail
        refine (C.out w1 v HV.out).mono ?_
        rintro e w2 ⟨rfl, hb2⟩
        have HK := Lib.hid (liesF_keeps HV.out ((Keeps.of_below hb2 : Keeps w.heap.size w1 w2)))
        have HB2 := Lib.hid (HB.out.trans (hb2.mono hs1))
        clear hb2
        go_wp2_with fail
        go_ret2
        exact ⟨v, rfl, HK.out, HB2.out⟩
      · have HY := HX.out.trans (show _ = (Fo.nil, foErr f) by rw [ho]; exact if_neg h0)
        subst HY
        generalize foErr f = ef at *
        have b0 : (ef != 0) = true := by simpa using h0
        clear ho h0 HX HP SM SF
        go_enter Tryz.func58, Tryz.ntmps58
        go_wp2_with fail
        refine R.out.mono ?_
        rintro e w1 ⟨v, rfl, hv, hb1⟩
        have HV := Lib.hid hv
        have HB := Lib.hid hb1
        have hs1 := hb1.size
        clear hv hb1
        go_wp2_with fail
        refine (C.out w1 v HV.out).mono ?_
        rintro e w2 ⟨rfl, hb2⟩
        have HB2 := Lib.hid (HB.out.trans (hb2.mono hs1))
        clear hb2
        go_wp2_with fail
        go_ret2
        exact ⟨_, rfl, .inl ⟨_, _, rfl, rfl⟩, HB2.out⟩

def exText : List UInt8 := [100, 111, 99, 40, 108, 97, 110, 103, 61, 34, 101, 110, 34, 41, 123, 34, 104, 105, 34, 32, 98, 123, 51, 47, 52, 32, 45, 50, 125, 32, 98, 125, 32, 55]
set_option maxRecDepth 100000 in
theorem read_ex : readP exText = some exF := by kernel_rfl
set_option maxRecDepth 100000 in
theorem parsed_ex : parsed exText = (exF, 0) := by
  unfold parsed
  rw [if_neg (by decide), read_ex]
  exact if_pos (by decide +kernel)
end Go.Proofs.YtcgedpfolloinaaGreat

namespace Go.Proofs.YtcgedpfolloinaaGreat
open Go.RowKit

theorem toldS_len {n d : Int} (h : chk n d = 0) : (toldS n d).length ≤ 22 := by
  obtain ⟨f1, f2, f3, f4⟩ := fit_of_chk h
  have h1 := numText1_len (n := (n.natAbs : Int)) (if d = 1 then [] else 47 :: numText d 1 []) (by omega)
  have h2 := numText1_len (n := d) [] (by omega)
  have h3 := signText_len n (numText (n.natAbs : Int) 1 (if d = 1 then [] else 47 :: numText d 1 []))
  have h4 : (if d = 1 then ([] : List UInt8) else 47 :: numText d 1 []).length ≤ 11 := by split <;> simp at h2 ⊢; omega
  unfold toldS
  omega
theorem printable_ok {l : List UInt8} {most : Int} (h : printableB l most = true) : (∀ c ∈ l, c.toNat < 128) ∧ (l.length : Int) ≤ most := by
  unfold printableB at h
  simp only [Bool.and_eq_true, decide_eq_true_eq, List.all_eq_true] at h
  exact ⟨fun c hc => by have := h.1 c hc; omega, h.2⟩
theorem named_ok {l : List UInt8} (h : namedB l = true) : l.length ≤ 8 := by
  unfold namedB at h
  simp only [Bool.and_eq_true, decide_eq_true_eq] at h
  omega
theorem attrs_ok : ∀ (ats : List (List UInt8 × List UInt8)) (before : List UInt8), attrsErr before ats = 0 → ∀ q ∈ ats, q.1.length ≤ 8 ∧ q.2.length ≤ 12 ∧ ∀ c ∈ q.2, c.toNat < 128
  | [], _, _, q, hq => by simp at hq
  | (n, v) :: r, before, h, q, hq => by
    simp only [attrsErr] at h
    by_cases h1 : namedB n = false
    · rw [if_pos h1] at h; cases h
    · rw [if_neg h1] at h
      by_cases h2 : leB n before = true
      · rw [if_pos h2] at h; cases h
      · rw [if_neg h2] at h
        by_cases h3 : printableB v 12 = false
        · rw [if_pos h3] at h; cases h
        · rw [if_neg h3] at h
          rcases List.mem_cons.1 hq with rfl | hq
          · have := printable_ok (by simpa using h3 : printableB v 12 = true)
            exact ⟨named_ok (by simpa using h1), by have := this.2; show v.length ≤ 12; omega, this.1⟩
          · exact attrs_ok r n h q hq
theorem quoQ_le (s : List UInt8) : (quoQ s).length ≤ 2 * s.length + 2 := by have := escQ_len s; simp [quoQ]; omega
theorem atsQ_le : ∀ (ats : List (List UInt8 × List UInt8)) (m : UInt8), (∀ q ∈ ats, q.1.length ≤ 8 ∧ q.2.length ≤ 12) → (atsQ m ats).length ≤ 36 * ats.length
  | [], m, _ => by simp [atsQ]
  | q :: t, m, h => by
    have h1 := atsQ_le t 44 (fun q hq => h q (by simp [hq]))
    have h2 := h q (by simp)
    have h3 := quoQ_le q.2
    simp only [atsQ, List.length_cons, List.length_append]
    omega
theorem head_ok {h : Hd} (e : headErr h = 0) : HdAsc h ∧ ∀ ks, (treeQ h ks).length ≤ 119 + (foQ true ks).length := by
  unfold headErr at e
  by_cases h0 : strayB h = true
  · rw [if_pos h0] at e; cases e
  rw [if_neg h0] at e
  unfold strayB at h0
  by_cases h1 : h.k = 1
  · rw [if_pos h1] at e
    simp [h1] at h0
    refine ⟨⟨by rw [h0.1]; simp, by rw [h0.2.2]; simp⟩, fun ks => ?_⟩
    have := toldS_len e
    unfold treeQ printE
    rw [if_pos h1, if_pos e]; omega
  · rw [if_neg h1] at e
    by_cases h2 : h.k = 2
    · rw [if_pos h2] at e
      simp [h2] at h0
      have hp : printableB h.x 24 = true := by
        by_cases hp : printableB h.x 24 = true
        · exact hp
        · rw [if_neg hp] at e; cases e
      have := printable_ok hp
      refine ⟨⟨this.1, by rw [h0.2.2]; simp⟩, fun ks => ?_⟩
      have := quoQ_le h.x
      unfold treeQ
      rw [if_neg h1, if_pos h2]; omega
    · rw [if_neg h2] at e
      by_cases h3 : h.k = 0
      · simp [h3] at h0
        unfold elemErr at e
        by_cases g1 : namedB h.l = false
        · rw [if_pos g1] at e; cases e
        rw [if_neg g1] at e
        by_cases g2 : 3 < h.ats.length
        · rw [if_pos g2] at e; cases e
        rw [if_neg g2] at e
        have ha := attrs_ok _ _ e
        refine ⟨⟨by rw [h0.2]; simp, fun q hq => (ha q hq).2.2⟩, fun ks => ?_⟩
        have hl := named_ok (by simpa using g1 : namedB h.l = true)
        have hb := atsQ_le h.ats 40 (fun q hq => ⟨(ha q hq).1, (ha q hq).2.1⟩)
        have hq : (attrsQ h.ats).length ≤ 109 := by unfold attrsQ; split <;> simp; omega
        unfold treeQ elemQ
        rw [if_neg h1, if_neg h2]
        simp only [List.length_append]
        split <;> simp <;> omega
      · simp [h1, h2, h3] at h0
theorem fo_ok : ∀ f : Fo, headsErr f = 0 → foAsc f ∧ ∀ b, (foQ b f).length ≤ 120 * f.size
  | .nil, _ => ⟨trivial, fun b => by simp [foQ, Fo.size]⟩
  | .cons h ks r, e => by
    unfold headsErr at e
    by_cases h1 : headErr h ≠ 0
    · rw [if_pos h1] at e; exact absurd e h1
    rw [if_neg h1] at e
    by_cases h2 : h.k ≠ 0 ∧ ks.len ≠ 0
    · rw [if_pos h2] at e; cases e
    rw [if_neg h2] at e
    by_cases h3 : headsErr ks ≠ 0
    · rw [if_pos h3] at e; exact absurd e h3
    rw [if_neg h3] at e
    have hh := head_ok (h := h) (by simpa using h1)
    have hk := fo_ok ks (by simpa using h3)
    have hr := fo_ok r e
    refine ⟨⟨hh.1, hk.1, hr.1⟩, fun b => ?_⟩
    have a1 := hh.2 ks
    have a2 := hk.2 true
    have a3 := hr.2 false
    simp only [foQ_cons, List.length_append, Fo.size]
    have : (if b = true then ([] : List UInt8) else [32]).length ≤ 1 := by split <;> simp
    omega
theorem valid_ok {f : Fo} (h : foErr f = 0) : foAsc f ∧ (foQ true f).length ≤ 48000 := by
  unfold foErr at h
  by_cases h1 : 400 < f.size
  · rw [if_pos h1] at h; cases h
  rw [if_neg h1] at h
  by_cases h2 : 40 < f.deep
  · rw [if_pos h2] at h; cases h
  rw [if_neg h2] at h
  have := fo_ok f h
  exact ⟨this.1, by have := this.2 true; omega⟩
theorem print_tree (f : Fo) (v : Value) (w : World) (hl : Lies w v f) (hs : Small f) :
    Calls Tryz.prog 56 #[v] w fun e w' => e = .returned (.tuple #[.string ⟨(printF f).1.toArray⟩, .int .i64 (printF f).2]) ∧ Below w.heap.size w w' :=
  tprint_all f v w hl hs (fun h => ⟨(valid_ok h).1, by have := (valid_ok h).2; omega⟩)
end Go.Proofs.YtcgedpfolloinaaGreat

namespace Go.Proofs.YtcgedpfolloinaaGreat
open Go.RowKit

theorem head_kinds {h : Hd} (e : headErr h = 0) : (h.k = 0 ∧ h.n = 0 ∧ h.d = 0 ∧ h.x = []) ∨ (h.k = 1 ∧ h.x = [] ∧ h.l = [] ∧ h.ats = [] ∧ chk h.n h.d = 0) ∨ (h.k = 2 ∧ h.n = 0 ∧ h.d = 0 ∧ h.l = [] ∧ h.ats = []) := by
  unfold headErr at e
  by_cases hs : strayB h = true
  · rw [if_pos hs] at e; cases e
  · rw [if_neg hs] at e
    unfold strayB at hs
    by_cases h0 : h.k = 0
    · rw [if_pos h0] at hs
      simp at hs
      exact .inl ⟨h0, hs.1.1, hs.1.2, hs.2⟩
    · rw [if_neg h0] at hs
      by_cases h1 : h.k = 1
      · rw [if_pos h1] at hs
        rw [if_pos h1] at e
        simp at hs
        exact .inr (.inl ⟨h1, hs.1, hs.2.1, hs.2.2, e⟩)
      · rw [if_neg h1] at hs
        by_cases h2 : h.k = 2
        · rw [if_pos h2] at hs
          simp at hs
          exact .inr (.inr ⟨h2, hs.1.1, hs.1.2, hs.2.1, hs.2.2⟩)
        · rw [if_neg h2] at hs; simp at hs
end Go.Proofs.YtcgedpfolloinaaGreat

namespace Go.Proofs.YtcgedpfolloinaaGreat
open Go.RowKit

def hdVal (h : Hd) (aa : Option Addr) (ca : Nat) : Value := .agg #[.int .i64 h.k, .string ⟨h.l.toArray⟩, .slice aa h.ats.length ca, .int .i64 h.n, .int .i64 h.d, .string ⟨h.x.toArray⟩]

set_option maxRecDepth 100000 in
set_option maxHeartbeats 2000000 in
theorem sameHead_refl (h : Hd) (aa : Option Addr) (ca : Nat) (ab : Option Addr) (cb : Nat) (w : World) (ha : AttrsLie w (.slice aa h.ats.length ca) h.ats) (hb : AttrsLie w (.slice ab h.ats.length cb) h.ats) :
    Calls Tryz.prog 63 #[hdVal h aa ca, hdVal h ab cb] w fun e w' => e = .returned (.bool true) ∧ Below w.heap.size w w' := by
  have HA := Lib.hid ha
  have HB := Lib.hid hb
  have hal : h.ats.length ≤ 4398046510976 := by
    rcases ha with ⟨_, _, _, h0⟩ | ⟨_, _, _, _, _, h0, _⟩
    · rw [h0]; simp
    · exact h0
  clear ha hb
  unfold hdVal
  go_enter Tryz.func63, Tryz.ntmps63
  go_wp2_with fail
  go_loopw [5] (fun i wr => ∃ k : Nat, i = .int .i64 k ∧ k ≤ h.ats.length ∧ wr.cell? ⟨w.heap.size, 2, none⟩ = some (.slice aa h.ats.length ca) ∧ wr.cell? ⟨w.heap.size + 1, 2, none⟩ = some (.slice ab h.ats.length cb) ∧ w.heap.size + 1 < wr.heap.size ∧ Below w.heap.size w wr) (fun i _ => h.ats.length - (intOf i).toNat)
  case atStart => exact ⟨0, rfl, Nat.zero_le _, by simp [go_sem], by simp [go_sem], by simp, by ((repeat' (first | exact Below.refl _ _ | assumption | refine Below.setCell ?_ ?_ _ | refine bdrewN ?_ _ | refine Below.drew ?_ | refine Below.alloc ?_ ?_ _ | refine bbehind ?_ (by assumption) ?_)); all_goals first | (simp; done) | (simp; omega) | omega)⟩
  case round =>
    obtain ⟨k, rfl, hk, c1, c2, hsz, hbw⟩ := hrel
    have hz0 : w.heap.size < wr.heap.size := by omega
    by_cases hlt : k < h.ats.length
    · have dk : decide (k < h.ats.length) = true := by simpa using hlt
      obtain ⟨ba, oa, capa, hs, -, -, hba, hca⟩ := attrs_row HA.out (by omega)
      simp only [Value.slice.injEq] at hs
      obtain ⟨rfl, -, rfl⟩ := hs
      obtain ⟨bb, ob, capb, hs, -, -, hbb, hcb⟩ := attrs_row HB.out (by omega)
      simp only [Value.slice.injEq] at hs
      obtain ⟨rfl, -, rfl⟩ := hs
      obtain ⟨q1, q2⟩ := hca k hlt
      obtain ⟨q3, q4⟩ := hcb k hlt
      have q1 := (hbw.cell (p := ⟨ba, oa + k * 2, none⟩) hba).trans q1
      have q2 := (hbw.cell (p := ⟨ba, oa + k * 2 + 1, none⟩) hba).trans q2
      have q3 := (hbw.cell (p := ⟨bb, ob + k * 2, none⟩) hbb).trans q3
      have q4 := (hbw.cell (p := ⟨bb, ob + k * 2 + 1, none⟩) hbb).trans q4
      have k1 : ba < wr.heap.size := by omega
      have k2 : bb < wr.heap.size := by omega
      clear hca hcb
      generalize (h.ats.getD k ([], [])).1 = nm at *
      generalize (h.ats.getD k ([], [])).2 = vl at *
      go_wp2_with fail
      refine wp_region_quiet_all (fun w' => ∃ x : Lower _, w' = x.val) (by kernel_rfl) (by kernel_rfl) ⟨⟨_, (Below.refl _ _).drew⟩, rfl⟩ ?_
      repeat (go_big_quiet_step (fail))
      refine wpQuiet_nil ?_
      intro w2 hx2
      obtain ⟨x2, hx2⟩ := hx2
      have hb2 := x2.prop
      rw [← hx2] at hb2
      clear hx2 x2
      obtain ⟨hc2, hf2⟩ := bcell hb2
      have hs2 := hb2.size
      try simp at hs2
      try have hz20 : w.heap.size < w2.heap.size := by omega
      try have hz21 : w.heap.size + 1 < w2.heap.size := by omega
      try have hz22 : w.heap.size + 1 + 1 < w2.heap.size := by omega
      try have hz23 : w.heap.size + 1 + 1 + 1 < w2.heap.size := by omega
      try have hz24 : w.heap.size + 1 + 1 + 1 + 1 < w2.heap.size := by omega
      try have hz25 : w.heap.size + 1 + 1 + 1 + 1 + 1 < w2.heap.size := by omega
      try have hy1_2 : w1.heap.size < w2.heap.size := by omega
      go_wp2_with fail
      go_roundw
      case rel => exact ⟨k + 1, by go_num, by omega, by rw [hc2 _ _ hz0]; exact c1, by rw [hc2 _ _ hsz]; exact c2, by omega, hbw.trans (hb2.mono hbw.size)⟩
      case measure => simp [intOf]; omega
    · have dk : decide (k < h.ats.length) = false := by simpa using hlt
      go_wp2_with fail
      go_ret
      exact ⟨rfl, hbw⟩

set_option maxRecDepth 100000 in
set_option maxHeartbeats 2000000 in
theorem same_of (f : Fo) (v u : Value) (w : World) (hl : Lies w v f) (hg : Lies w u f)
    (HK : ∀ k h ks, k < f.len → f.drop k = .cons h ks (f.drop (k + 1)) → ∀ v u w, Lies w v ks → Lies w u ks → Calls Tryz.prog 35 #[v, u] w fun e w' => e = .returned (.bool true) ∧ Below w.heap.size w w') :
    Calls Tryz.prog 35 #[v, u] w fun e w' => e = .returned (.bool true) ∧ Below w.heap.size w w' := by
  have HL := Lib.hid hl
  have HG := Lib.hid hg
  have HKK := Lib.hid HK
  have hfl := lies_len hl
  obtain ⟨a, cap, rfl⟩ := lies_form hl
  obtain ⟨a', cap', rfl⟩ := lies_form hg
  clear hl hg HK
  go_enter Tryz.func35, Tryz.ntmps35
  go_wp2_with fail
  go_loopw [5] (fun i wr => ∃ k : Nat, i = .int .i64 k ∧ k ≤ f.len ∧ Below w.heap.size w wr) (fun i _ => f.len - (intOf i).toNat)
  case atStart => exact ⟨0, rfl, Nat.zero_le _, Below.refl _ _⟩
  case round =>
    obtain ⟨k, rfl, hk, hbw⟩ := hrel
    have hsz := hbw.size
    by_cases hlt : k < f.len
    · have dk : decide (k < f.len) = true := by simpa using hlt
      obtain ⟨bf, of, cp, hs, -, -, hbf, hrow⟩ := lies_row HL.out (by omega)
      simp only [Value.slice.injEq] at hs
      obtain ⟨rfl, -, rfl⟩ := hs
      obtain ⟨bg, og, cp', hs, -, -, hbg, hrow'⟩ := lies_row HG.out (by omega)
      simp only [Value.slice.injEq] at hs
      obtain ⟨rfl, -, rfl⟩ := hs
      obtain ⟨hd, ks, e, ⟨qa0, qa1, ⟨va, qa2, ha⟩, qa3, qa4, qa5⟩, vk, qa6, hlk⟩ := row_get hrow hlt
      obtain ⟨hd', ks', e', ⟨qb0, qb1, ⟨vb, qb2, hb⟩, qb3, qb4, qb5⟩, vl, qb6, hlk'⟩ := row_get hrow' hlt
      rw [e] at e'
      cases e'
      obtain ⟨aa, ca, rfl⟩ := attrs_form ha
      obtain ⟨ab, cb, rfl⟩ := attrs_form hb
      obtain ⟨ak, ck, rfl⟩ := lies_form hlk
      obtain ⟨al, cl, rfl⟩ := lies_form hlk'
      have ra0 := (hbw.cell (p := ⟨bf, of + k * 7, none⟩) hbf).trans qa0
      have ra1 := (hbw.cell (p := ⟨bf, of + k * 7 + 1, none⟩) hbf).trans qa1
      have ra2 := (hbw.cell (p := ⟨bf, of + k * 7 + 2, none⟩) hbf).trans qa2
      have ra3 := (hbw.cell (p := ⟨bf, of + k * 7 + 3, none⟩) hbf).trans qa3
      have ra4 := (hbw.cell (p := ⟨bf, of + k * 7 + 4, none⟩) hbf).trans qa4
      have ra5 := (hbw.cell (p := ⟨bf, of + k * 7 + 5, none⟩) hbf).trans qa5
      have ra6 := (hbw.cell (p := ⟨bf, of + k * 7 + 6, none⟩) hbf).trans qa6
      have rb0 := (hbw.cell (p := ⟨bg, og + k * 7, none⟩) hbg).trans qb0
      have rb1 := (hbw.cell (p := ⟨bg, og + k * 7 + 1, none⟩) hbg).trans qb1
      have rb2 := (hbw.cell (p := ⟨bg, og + k * 7 + 2, none⟩) hbg).trans qb2
      have rb3 := (hbw.cell (p := ⟨bg, og + k * 7 + 3, none⟩) hbg).trans qb3
      have rb4 := (hbw.cell (p := ⟨bg, og + k * 7 + 4, none⟩) hbg).trans qb4
      have rb5 := (hbw.cell (p := ⟨bg, og + k * 7 + 5, none⟩) hbg).trans qb5
      have rb6 := (hbw.cell (p := ⟨bg, og + k * 7 + 6, none⟩) hbg).trans qb6
      have k1 : bf < wr.heap.size := by omega
      have k2 : bg < wr.heap.size := by omega
      have SH := Lib.hid (fun (x : Lower wr) => calls_lower x (sameHead_refl hd aa ca ab cb x.val (attrs_below (attrs_below ha hbw) x.prop) (attrs_below (attrs_below hb hbw) x.prop)))
      have SK := Lib.hid (fun (x : Lower wr) => calls_lower x (HKK.out k hd ks hlt e _ _ x.val (lies_below (lies_below hlk hbw) x.prop) (lies_below (lies_below hlk' hbw) x.prop)))
      unfold hdVal at SH
      clear e hrow hrow' ha hb hlk hlk' qa0 qa1 qa2 qa3 qa4 qa5 qa6 qb0 qb1 qb2 qb3 qb4 qb5 qb6
      go_wp2_with fail
      refine wp_region_quiet_all (fun w' => ∃ x : Lower _, w' = x.val) (by kernel_rfl) (by kernel_rfl) ⟨⟨_, (Below.refl _ _).drew⟩, rfl⟩ ?_
      repeat (go_big_quiet_step (first | (go_at_call 63; exact SH.out _) | (go_at_call 35; exact SK.out _)))
      refine wpQuiet_nil ?_
      intro w2 hx2
      obtain ⟨x2, hx2⟩ := hx2
      have hb2 := x2.prop
      rw [← hx2] at hb2
      clear hx2 x2
      obtain ⟨hc2, hf2⟩ := bcell hb2
      have hs2 := hb2.size
      try simp at hs2
      try have hz20 : w.heap.size < w2.heap.size := by omega
      try have hz21 : w.heap.size + 1 < w2.heap.size := by omega
      try have hz22 : w.heap.size + 1 + 1 < w2.heap.size := by omega
      try have hz23 : w.heap.size + 1 + 1 + 1 < w2.heap.size := by omega
      try have hz24 : w.heap.size + 1 + 1 + 1 + 1 < w2.heap.size := by omega
      try have hz25 : w.heap.size + 1 + 1 + 1 + 1 + 1 < w2.heap.size := by omega
      try have hy1_2 : w1.heap.size < w2.heap.size := by omega
      go_wp2_with fail
      go_roundw
      case rel => exact ⟨k + 1, by go_num, by omega, hbw.trans (hb2.mono hbw.size)⟩
      case measure => simp [intOf]; omega
    · have dk : decide (k < f.len) = false := by simpa using hlt
      go_wp2_with fail
      go_ret
      exact ⟨rfl, hbw⟩
theorem same_refl : ∀ (N : Nat) (f : Fo), f.size ≤ N → ∀ (v u : Value) (w : World), Lies w v f → Lies w u f → Calls Tryz.prog 35 #[v, u] w fun e w' => e = .returned (.bool true) ∧ Below w.heap.size w w' := by
  intro N
  induction N with
  | zero =>
    intro f hf v u w hl hg
    exact same_of f v u w hl hg (fun k h ks hk => by have := Fo.len_le_size f; omega)
  | succ N ih =>
    intro f hf v u w hl hg
    refine same_of f v u w hl hg (fun k h ks hk e v u w hl hg => ih ks ?_ v u w hl hg)
    have := Fo.size_app (f.take k) (f.drop k)
    rw [Fo.take_app_drop, e] at this
    simp only [Fo.size] at this
    omega
end Go.Proofs.YtcgedpfolloinaaGreat

namespace Go.Proofs.YtcgedpfolloinaaGreat
open Go.RowKit

theorem ints_three {W : World} {b : Nat} {T : TypeId} {x y z : Int} (h : W.heap[b]? = some (.cells #[.int .i64 x, .int .i64 y, .int .i64 z] T (0, 0))) (hb : b < W.heap.size) : IntsLie W (.slice (some ⟨b, 0, none⟩) 3 3) [x, y, z] := by
  refine .inr ⟨b, 0, 3, rfl, by simp, hb, fun k hk => ?_⟩
  match k, hk with
  | 0, _ => exact cell_of_block h rfl
  | 1, _ => exact cell_of_block h rfl
  | 2, _ => exact cell_of_block h rfl
theorem ex_small : Small exF := readP_small (l := exText) (by decide) read_ex
theorem ex_size : sizeT exF = (7, 0) := by decide +kernel
theorem ex_at : atErr exF [0, 1, 1] = 0 := by decide +kernel
theorem ex_place : placeF exF [0, 1, 1] = some (numHd (-2) 1, .nil) := by kernel_rfl
theorem ex_print : printF exF = (exText, 0) := by decide +kernel
theorem ex_next : nextF exF [0, 1, 1] = ([0, 2], true, 0) := by decide +kernel
theorem ex_alike : alikeB [0, 2] [0, 2] = true := by decide

set_option maxRecDepth 100000 in
set_option maxHeartbeats 8000000 in
theorem grown_any (w : World) : Calls Tryz.prog 16 #[] w fun e w' => e = .returned (.bool true) ∧ Below w.heap.size w w' := by
  have EX := Lib.hid (fun w => example_any w)
  have SZ := Lib.hid (fun v W (h : Lies W v exF) => tsize_any exF v W h ex_small)
  have AT := Lib.hid (fun v u W (h : Lies W v exF) (hp : IntsLie W u [0, 1, 1]) => at_any exF [0, 1, 1] v u W h ex_small hp (by decide))
  have PR := Lib.hid (fun v W (h : Lies W v exF) => print_tree exF v W h ex_small)
  have NX := Lib.hid (fun v u W (h : Lies W v exF) (hp : IntsLie W u [0, 1, 1]) => next_any exF [0, 1, 1] v u W h ex_small hp (by decide))
  have PA := Lib.hid (fun W => tparse_any exText W (by decide))
  have AL := Lib.hid (fun v u W (h1 : IntsLie W v [0, 2]) (h2 : IntsLie W u [0, 2]) => alike_any v u [0, 2] [0, 2] W h1 h2 (by decide) (by decide))
  have SR := Lib.hid (fun v u W (h1 : Lies W v exF) (h2 : Lies W u exF) => same_refl 100000 exF ex_small.size v u W h1 h2)
  rw [ex_size] at SZ
  rw [ex_print] at PR
  rw [ex_next] at NX
  rw [ex_alike] at AL
  simp only [parsed_ex] at PA
  have exT : exText = [100, 111, 99, 40, 108, 97, 110, 103, 61, 34, 101, 110, 34, 41, 123, 34, 104, 105, 34, 32, 98, 123, 51, 47, 52, 32, 45, 50, 125, 32, 98, 125, 32, 55] := rfl
  go_enter Tryz.func16, Tryz.ntmps16
  go_wp2_with fail
  refine (EX.out _).mono ?_
  rintro e w1 ⟨a, rfl, hl1, hb1⟩
  have B1 := Lib.hid hb1
  have L1 := Lib.hid hl1
  have hs1 := hb1.size
  clear hb1 hl1
  go_wp2_with fail
  refine (SZ.out _ _ L1.out).mono ?_
  rintro e w2 ⟨rfl, hb2⟩
  have L2 := Lib.hid (lies_below L1.out hb2)
  have B2 := Lib.hid (B1.out.trans (hb2.mono hs1))
  clear hb2
  go_wp2_with fail
  have I3 : IntsLie (w2.alloc (.cells #[.int .i64 0, .int .i64 1, .int .i64 1] 3)) (.slice (some ⟨w2.heap.size, 0, none⟩) 3 3) [0, 1, 1] := ints_three (World.alloc_heap_new _ _) (by simp)
  have L2' := lies_below L2.out ((Below.refl _ w2).alloc (Nat.le_refl _) (.cells #[.int .i64 0, .int .i64 1, .int .i64 1] 3))
  have B2' : Below w.heap.size w (w2.alloc (.cells #[.int .i64 0, .int .i64 1, .int .i64 1] 3)) := B2.out.alloc B2.out.size _
  generalize w2.alloc (.cells #[.int .i64 0, .int .i64 1, .int .i64 1] 3) = W3 at *
  generalize (Value.slice (some ⟨w2.heap.size, 0, none⟩) 3 3) = u3 at *
  refine (AT.out _ _ _ L2' I3).mono ?_
  rintro e w3 ⟨h, ks, aa, ca, ak, ck, rfl, _, _, hor, hb3⟩
  rw [ex_at, ex_place] at hor
  obtain ⟨rfl, rfl⟩ : h = numHd (-2) 1 ∧ ks = .nil := by
    rcases hor with ⟨_, h1⟩ | ⟨h1, _⟩
    · have := Prod.mk.inj (Option.some.inj h1); exact ⟨this.1.symm, this.2.symm⟩
    · exact absurd rfl h1
  have L3 := Lib.hid (lies_below L2' hb3)
  have B3 := Lib.hid (B2'.trans (hb3.mono B2'.size))
  rw [ex_at]
  clear hor hb3 L2' I3 B2' L2 B2
  unfold aggOf numHd
  go_wp2_with fail
  generalize hW4 : w3.alloc _ = W4
  have K4 := Lib.hid (show W4.heap[w3.heap.size]? = some (.cells #[.int .i64 1, .string ⟨#[]⟩, .slice aa 0 ca, .int .i64 (-2), .int .i64 1, .string ⟨#[]⟩, .slice ak 0 ck] 43 (0, 0)) by rw [← hW4]; exact World.alloc_heap_new _ _)
  have hb4 : Below w3.heap.size w3 W4 := by rw [← hW4]; exact (Below.refl _ w3).alloc (Nat.le_refl _) _
  have L4 := Lib.hid (lies_below L3.out hb4)
  have B4 := Lib.hid (B3.out.trans (hb4.mono B3.out.size))
  generalize w3.heap.size = T4 at *
  clear hb4 hW4
  refine (PR.out _ _ L4.out).mono ?_
  rintro e w5 ⟨rfl, hb5⟩
  have h4 := (Array.getElem?_eq_some_iff.1 K4.out).1
  have K5 := Lib.hid ((hb5.block _ h4).trans K4.out)
  have L5 := Lib.hid (lies_below L4.out hb5)
  have B5 := Lib.hid (B4.out.trans (hb5.mono B4.out.size))
  have hs5 := hb5.size
  clear hb5 K4 L4 B4
  go_wp2_with fail
  have I6 : IntsLie (w5.alloc (.cells #[.int .i64 0, .int .i64 1, .int .i64 1] 3)) (.slice (some ⟨w5.heap.size, 0, none⟩) 3 3) [0, 1, 1] := ints_three (World.alloc_heap_new _ _) (by simp)
  have hb6 : Below w5.heap.size w5 (w5.alloc (.cells #[.int .i64 0, .int .i64 1, .int .i64 1] 3)) := (Below.refl _ w5).alloc (Nat.le_refl _) _
  have L6 := lies_below L5.out hb6
  have B6 := B5.out.trans (hb6.mono B5.out.size)
  have K6 := (hb6.block T4 (by omega)).trans K5.out
  have hs6 := hb6.size
  generalize w5.alloc (.cells #[.int .i64 0, .int .i64 1, .int .i64 1] 3) = W6 at *
  generalize (Value.slice (some ⟨w5.heap.size, 0, none⟩) 3 3) = u6 at *
  refine (NX.out _ _ _ L6 I6).mono ?_
  rintro e w7 ⟨a7, c7, rfl, hi7, hb7⟩
  have I7 := Lib.hid hi7
  have K7 := Lib.hid ((hb7.block T4 (by omega)).trans K6)
  have L7 := Lib.hid (lies_below L6 hb7)
  have B7 := Lib.hid (B6.trans (hb7.mono B6.size))
  have hs7 := hb7.size
  clear hb7 hb6 K6 L6 B6 I6 hi7
  simp only
  go_wp2_with fail
  refine (PA.out _).mono ?_
  rintro e w8 ⟨v8, rfl, hv8, hb8⟩
  obtain ⟨a8, c8, rfl⟩ := liesF_form hv8
  have I8 := Lib.hid (intsF_keeps I7.out (Keeps.of_below hb8))
  have V8 := Lib.hid (liesF_lies hv8)
  have K8 := (hb8.block T4 (by omega)).trans K7.out
  have L8 := Lib.hid (lies_below L7.out hb8)
  have B8 := Lib.hid (B7.out.trans (hb8.mono B7.out.size))
  have hs8 := hb8.size
  have c3 : w8.cell? ⟨T4, 3, none⟩ = some (.int .i64 (-2)) := cell_of_block K8 rfl
  have c4 : w8.cell? ⟨T4, 4, none⟩ = some (.int .i64 1) := cell_of_block K8 rfl
  clear hb8 hv8 K8 I7 L7 K7 B7
  go_wp2_with fail
  have I9 : IntsLie (w8.alloc (.cells #[.int .i64 0, .int .i64 2] 3)) (.slice (some ⟨w8.heap.size, 0, none⟩) 2 2) [0, 2] := ints_pair (World.alloc_heap_new _ _) (by simp)
  have hb9 : Below w8.heap.size w8 (w8.alloc (.cells #[.int .i64 0, .int .i64 2] 3)) := (Below.refl _ w8).alloc (Nat.le_refl _) _
  have J9 := ints_below (intsF_lies I8.out) hb9
  have L9 := lies_below L8.out hb9
  have V9 := lies_below V8.out hb9
  have B9 := B8.out.trans (hb9.mono B8.out.size)
  generalize w8.alloc (.cells #[.int .i64 0, .int .i64 2] 3) = W9 at *
  generalize (Value.slice (some ⟨w8.heap.size, 0, none⟩) 2 2) = u9 at *
  refine (AL.out _ _ _ J9 I9).mono ?_
  rintro e w10 ⟨rfl, hb10⟩
  have L10 := Lib.hid (lies_below L9 hb10)
  have V10 := Lib.hid (lies_below V9 hb10)
  have B10 := Lib.hid (B9.trans (hb10.mono B9.size))
  clear hb10 hb9 J9 I9 L9 V9 B9
  go_wp2_with fail
  refine (SR.out _ _ _ L10.out V10.out).mono ?_
  rintro e w11 ⟨rfl, hb11⟩
  have B11 := Lib.hid (B10.out.trans (hb11.mono B10.out.size))
  clear hb11
  go_wp2_with fail
  go_ret
  exact ⟨rfl, B11.out⟩
end Go.Proofs.YtcgedpfolloinaaGreat

namespace Go.Proofs.YtcgedpfolloinaaGreat
open Go.RowKit

theorem seq_place : ∀ {f : Fo} {pre : List Nat} {i : Nat} {x : Vis}, x ∈ seqAt pre i f → ∃ j t, x.p = pre ++ (i + j) :: t ∧ placeF f (pathInts (j :: t)) = some (x.h, x.ks)
  | .nil, _, _, _, h => by cases h
  | .cons h0 k0 r0, pre, i, x, h => by
    simp only [seqAt, List.mem_cons, List.mem_append] at h
    rcases h with rfl | h | h
    · exact ⟨0, [], rfl, rfl⟩
    · obtain ⟨j, t, e, hp⟩ := seq_place h
      refine ⟨0, j :: t, by rw [e]; simp, ?_⟩
      have : placeF (.cons h0 k0 r0) (pathInts (0 :: j :: t)) = placeF k0 (pathInts (j :: t)) := by
        simp [placeF, Fo.drop]
      rw [this, hp]
    · obtain ⟨j, t, e, hp⟩ := seq_place h
      refine ⟨j + 1, t, by rw [e]; simp; omega, ?_⟩
      rw [← hp]
      have a1 : ¬ ((j : Int) + 1 < 0) := by omega
      have a2 : ¬ ((j : Int) < 0) := by omega
      have a3 : ((j : Int) + 1).toNat = j + 1 := by omega
      simp only [List.map_cons, placeF, a1, a2, if_false, Int.toNat_natCast, a3, Fo.drop, Int.natCast_add, Int.natCast_one]
theorem heads_vis : ∀ {f : Fo} {pre : List Nat} {i : Nat} {x : Vis}, headsErr f = 0 → x ∈ seqAt pre i f → headErr x.h = 0
  | .nil, _, _, _, _, h => by cases h
  | .cons h0 k0 r0, pre, i, x, he, h => by
    simp only [seqAt, List.mem_cons, List.mem_append] at h
    unfold headsErr at he
    by_cases h1 : headErr h0 = 0
    · rw [if_neg (by simpa using h1)] at he
      by_cases h2 : h0.k ≠ 0 ∧ k0.len ≠ 0
      · rw [if_pos h2] at he; cases he
      · rw [if_neg h2] at he
        by_cases h3 : headsErr k0 = 0
        · rw [if_neg (by simpa using h3)] at he
          rcases h with rfl | h | h
          · exact h1
          · exact heads_vis h3 h
          · exact heads_vis he h
        · rw [if_pos h3] at he; exact absurd he h3
    · rw [if_pos h1] at he; exact absurd he h1
theorem heads_ok {f : Fo} (h : foErr f = 0) : headsErr f = 0 := by
  unfold foErr at h
  split at h
  · cases h
  · split at h
    · cases h
    · exact h
theorem paths_val {f : Fo} (h : foErr f = 0) : pathsV f = ((seqAt [] 0 f).map (·.p), 0) := by
  unfold pathsV selP; rw [if_pos h, List.filter_eq_self.2 (fun _ _ => rfl)]
theorem find_val {f : Fo} {l : List UInt8} (h : foErr f = 0) (hn : namedB l = true) : findV f l = (selP (fun x => x.h.l == l) (seqAt [] 0 f), 0) := by
  unfold findV; rw [if_pos h, if_pos hn]
theorem find_bad {f : Fo} {l : List UInt8} (h : foErr f = 0) (hn : namedB l = false) : findV f l = ([], 2) := by
  unfold findV; rw [if_pos h, if_neg (by simp [hn])]
theorem sel_len (sel : Vis → Bool) (f : Fo) : (selP sel (seqAt [] 0 f)).length ≤ f.size := by
  unfold selP
  rw [List.length_map, ← seqAt_len f [] 0]
  exact List.length_filter_le _ _
theorem place_at {f : Fo} {x : Vis} (hx : x ∈ seqAt [] 0 f) : placeF f (pathInts x.p) = some (x.h, x.ks) := by
  obtain ⟨j, t, e, hp⟩ := seq_place hx
  rw [e]
  simpa using hp
theorem kind_label {f : Fo} (h : foErr f = 0) {x : Vis} (hx : x ∈ seqAt [] 0 f) {l : List UInt8} (hn : namedB l = true) (e : x.h.l = l) : x.h.k = 0 := by
  rcases head_kinds (heads_vis (heads_ok h) hx) with h1 | h1 | h1
  · exact h1.1
  · rw [← e, h1.2.2.1] at hn; exact absurd hn (by decide)
  · rw [← e, h1.2.2.2.1] at hn; exact absurd hn (by decide)
end Go.Proofs.YtcgedpfolloinaaGreat

namespace Go.Proofs.YtcgedpfolloinaaGreat
open Go.RowKit

theorem PathsF.below {B : Nat} {W W' : World} {v : Value} {ps : List (List Nat)} (h : PathsF B W v ps) (k : Below W.heap.size W W') : PathsF B W' v ps := h.keeps (Keeps.of_below k)
/-- the k-th path of a row of paths. -/
theorem PathsF.at {B : Nat} {W : World} {a : Option Addr} {c : Nat} {ps : List (List Nat)} (h : PathsF B W (.slice a ps.length c) ps) (h0 : 0 < ps.length) : ∃ b, a = some ⟨b, 0, none⟩ ∧ ps.length ≤ c ∧ b < W.heap.size ∧
    ∀ k, k < ps.length → ∃ a' c', W.cell? ⟨b, k, none⟩ = some (.slice a' (ps.getD k []).length c') ∧ IntsLie W (.slice a' (ps.getD k []).length c') (pathInts (ps.getD k [])) := by
  obtain ⟨a1, c1, e, i⟩ := h
  obtain ⟨rfl, -, rfl⟩ := by simpa using e
  rcases i with i | ⟨b, e1, e2, e3, e4, e5⟩
  · rw [i] at h0; exact absurd h0 (by simp)
  · refine ⟨b, e1, e2, e4, fun k hk => ?_⟩
    obtain ⟨c', h1, a2, c2, rfl, h2⟩ := e5 k hk
    exact ⟨a2, c2, h1, intsF_lies h2⟩

theorem intsF_below {B : Nat} {W W' : World} {v : Value} {l : List Int} (h : IntsF B W v l) (k : Below W.heap.size W W') : IntsF B W' v l := intsF_keeps h (Keeps.of_below k)

theorem sel_path (sel : Vis → Bool) (f : Fo) : ∀ j, j < (selP sel (seqAt [] 0 f)).length → ((selP sel (seqAt [] 0 f)).getD j []).length ≤ f.size := by
  intro j hj
  have hm : (selP sel (seqAt [] 0 f))[j] ∈ selP sel (seqAt [] 0 f) := List.getElem_mem hj
  rw [List.getD_eq_getElem?_getD, List.getElem?_eq_getElem hj, Option.getD_some]
  unfold selP at hm
  obtain ⟨x, hx, e⟩ := List.mem_map.1 hm
  have := path_len (List.mem_filter.1 hx).1
  have e' : x.p = (selP sel (seqAt [] 0 f))[j] := e
  rw [e'] at this
  simpa using this
theorem alike_same (v u : Value) (l : List Int) (w w1 : World) (hb : Below w.heap.size w w1) (h : IntsLie w v l ∧ IntsLie w u l ∧ l.length ≤ 1000000) : Calls Tryz.prog 43 #[v, u] w1 fun e w' => e = .returned (.bool true) ∧ Below w1.heap.size w1 w' := by
  have := alike_any v u l l w1 (ints_below h.1 hb) (ints_below h.2.1 hb) h.2.2 h.2.2
  simpa [alikeB] using this
end Go.Proofs.YtcgedpfolloinaaGreat
