/- What the proof of PrfTreeCuts rests on, part 11 of 12. -/
import Derived.Deep.Slices
import Derived.Deep.SlicePairs
import Derived.ChangeArms
import Derived.SizedLaws
import Derived.Test.YtcgedpfolloinaaGreatPPrfTreeCuts10
namespace Go.Proofs.YtcgedpfolloinaaGreat
open Go.RowKit

theorem insV_snoc (f : Fo) (q : List Int) (x : Int) (t : Fo) : insV f (q ++ [x]) t = if firstNZ [foErr f, foErr t] = 0 then insU f q x t else (.nil, firstNZ [foErr f, foErr t]) := by
  unfold insV
  rw [show (if q ++ [x] = [] then ((.nil, 10) : Fo × Int) else insU f (q ++ [x]).dropLast ((q ++ [x]).getLastD 0) t) = insU f q x t by rw [if_neg (by simp), List.dropLast_concat]; simp]


set_option maxRecDepth 100000 in
set_option maxHeartbeats 8000000 in
theorem tinsert_snoc (f : Fo) (q : List Int) (x : Int) (h : Hd) (ks : Fo) (v pv : Value) (aa : Option Addr) (ca : Nat) (ak : Option Addr) (ck : Nat) (w : World) (hl : Lies w v f) (hp : IntsLie w pv (q ++ [x])) (hpl : q.length ≤ 999999) (ha : AttrsLie w (.slice aa h.ats.length ca) h.ats) (hk : Lies w (.slice ak ks.len ck) ks) (hs : Small f) (hs1 : Small (.cons h ks .nil)) :
    Calls Tryz.prog 46 #[v, pv, aggOf h aa ca ak ks.len ck] w (FoE w (insV f (q ++ [x]) (.cons h ks .nil))) := by
  have CF := Lib.hid (fun W (hW : Below w.heap.size w W) => tcheck_any f v W (lies_below hl hW) hs)
  have TE := Lib.hid (fun x l W (h : IntsLie W x l) (hl : l.length ≤ 1000000) => (terr_any x l W h hl).mono (fun e w' (H : e = .returned (.int .i64 (firstNZ l)) ∧ W = w') => (⟨H.1, H.2 ▸ Below.refl _ _⟩ : e = .returned (.int .i64 (firstNZ l)) ∧ Below W.heap.size W w')))
  have CT := Lib.hid (fun W x (hx : Lies W x (.cons h ks .nil)) => tcheck_any (.cons h ks .nil) x W hx hs1)
  have HQ := ints_init hp
  have FA := Lib.hid (fun W (hW : Below w.heap.size w W) b0 o0 c0 (h : IntsLie w (.slice (some ⟨b0, o0, none⟩) q.length c0) q) => forestAt_any f q v _ W (lies_below hl hW) (ints_below h hW) (by omega))
  have SP := Lib.hid (fun g (hg : forestV f q = (g, 0)) (hx : ¬ (x < 0 ∨ (g.len : Int) < x)) W (hW : Below w.heap.size w W) y (hy : Lies W y (.cons h ks .nil)) => show Calls Tryz.prog 105 #[v, pv, .int .i64 (0 : Nat), y] W (FoE W (insU f q x (.cons h ks .nil))) by
    obtain ⟨e1, e2, e3, e4⟩ := insU_there (t := .cons h ks .nil) hg hx
    rw [e1, ← changeF_at _ f x.toNat 0 _ e3]
    exact splice_path f (q ++ [x]) _ x.toNat 0 g _ v pv y W (lies_below hl hW) (ints_below hp hW) (by rw [List.length_append]; simp; omega) hy e2 e3 e4 hs.size hs1.size)
  obtain ⟨R, hR⟩ : ∃ R, insV f (q ++ [x]) (.cons h ks .nil) = R := ⟨_, rfl⟩
  rw [hR]
  have HR := Lib.hid (hR.symm.trans (insV_snoc f q x _))
  have HA := Lib.hid (fun W (hW : Below w.heap.size w W) => attrs_below ha hW)
  have HK := Lib.hid (fun W (hW : Below w.heap.size w W) => lies_below hk hW)
  have HU := Lib.hid (show insU f q x (.cons h ks .nil) = if (forestV f q).2 ≠ 0 then (.nil, (forestV f q).2) else if x < 0 ∨ ((forestV f q).1.len : Int) < x then (.nil, 6) else insU f q x (.cons h ks .nil) by
    unfold insU
    by_cases h1 : (forestV f q).2 ≠ 0
    · rw [if_pos h1, if_pos h1]
    · rw [if_neg h1, if_neg h1]
      by_cases h2 : x < 0 ∨ ((forestV f q).1.len : Int) < x
      · rw [if_pos h2, if_pos h2]
      · rw [if_neg h2, if_neg h2])
  obtain ⟨av, cv, rfl⟩ := lies_form hl
  obtain ⟨pb0, po0, pcap, rfl, hcp, hpb, hpc, hq⟩ := HQ
  have HQ := Lib.hid hq
  simp only [List.length_append, List.length_cons, List.length_nil, Nat.zero_add] at hcp SP ⊢
  clear hl hp ha hk hs hs1 hR hq
  generalize insU f q x (.cons h ks .nil) = RU at *
  generalize forestV f q = fv at *
  obtain ⟨g, ge⟩ := fv
  simp only at HU
  generalize foErr f = e1 at *
  generalize foErr (.cons h ks .nil) = e2 at *
  unfold aggOf
  obtain ⟨L1, hL1⟩ : ∃ n, q.length + 1 = n := ⟨_, rfl⟩
  rw [hL1] at SP ⊢
  have eL : ((L1 : Int) - 1) = (q.length : Int) := by omega
  have eZ : ((L1 : Int) == 0) = false := by simp; omega
  have dq : decide (q.length < L1) = true := by simp; omega
  have dL : decide (q.length ≤ L1) = true := by simp; omega
  have hLc : L1 ≤ pcap := by omega
  have HL1 := Lib.hid hL1
  have HCP := Lib.hid hcp
  clear hL1 hcp
  go_enter Tryz.func46, Tryz.ntmps46
  go_upto_region 1 with fail
  have kk := World.alloc_heap_new w (.cells #[.int .i64 h.k, .string ⟨h.l.toArray⟩, .slice aa h.ats.length ca, .int .i64 h.n, .int .i64 h.d, .string ⟨h.x.toArray⟩, .slice ak ks.len ck] 43)
  have B0 : Below w.heap.size w (w.alloc (.cells #[.int .i64 h.k, .string ⟨h.l.toArray⟩, .slice aa h.ats.length ca, .int .i64 h.n, .int .i64 h.d, .string ⟨h.x.toArray⟩, .slice ak ks.len ck] 43)) := by ((repeat' (first | exact Below.refl _ _ | assumption | refine Below.setCell ?_ ?_ _ | refine bdrewN ?_ _ | refine Below.drew ?_ | refine Below.alloc ?_ ?_ _ | refine bbehind ?_ (by assumption) ?_)); all_goals first | (simp; done) | (simp; omega) | omega)
  have zb : w.heap.size < (w.alloc (.cells #[.int .i64 h.k, .string ⟨h.l.toArray⟩, .slice aa h.ats.length ca, .int .i64 h.n, .int .i64 h.d, .string ⟨h.x.toArray⟩, .slice ak ks.len ck] 43)).heap.size := by simp
  obtain ⟨tb, htb⟩ : ∃ t, t = w.heap.size := ⟨_, rfl⟩
  have htb' := Lib.hid htb
  have KB := Lib.hid kk
  rw [← htb] at KB
  have zb2 : tb < (w.alloc (.cells #[.int .i64 h.k, .string ⟨h.l.toArray⟩, .slice aa h.ats.length ca, .int .i64 h.n, .int .i64 h.d, .string ⟨h.x.toArray⟩, .slice ak ks.len ck] 43)).heap.size := by omega
  generalize w.alloc (.cells #[.int .i64 h.k, .string ⟨h.l.toArray⟩, .slice aa h.ats.length ca, .int .i64 h.n, .int .i64 h.d, .string ⟨h.x.toArray⟩, .slice ak ks.len ck] 43) = W at *
  clear kk zb
  have zb := zb2
  clear zb2
  have hbox : (Value.pointer (some ⟨w.heap.size, 0, none⟩)) = .pointer (some ⟨tb, 0, none⟩) := by rw [htb]
  rw [hbox]
  clear hbox htb
  go_cut [8] (fun s wx => s = .int .i64 (firstNZ [e1, e2]) ∧ Below w.heap.size w wx ∧ tb < wx.heap.size ∧ wx.heap[tb]? = some (.cells #[.int .i64 h.k, .string ⟨h.l.toArray⟩, .slice aa h.ats.length ca, .int .i64 h.n, .int .i64 h.d, .string ⟨h.x.toArray⟩, .slice ak ks.len ck] 43))
  case first =>
    refine wp_region_any (by kernel_rfl) ?_
    change wpAny _ _ _ _ _ _ _ (World.drew _)
    have BX : Below w.heap.size w W.drew := B0.drew
    have KB0 := Lib.hid (show W.drew.heap[tb]? = _ from KB.out)
    have zb0 : tb < W.drew.heap.size := zb
    clear KB zb
    generalize W.drew = X at *
    have KB := Lib.hid KB0.out
    have zb := zb0
    clear KB0 zb0
    refine wpAny_take (i := 0) (v := .slice av f.len cv) rfl (by decide +kernel) (by decide +kernel) (by decide +kernel) (fun _ _ _ h => h) (Or.inl ⟨by kernel_rfl, by intro w; go_simp <;> with_reducible rfl⟩) ?_
    simp only [Act.put, List.setIfInBounds_toArray]
    refine wpAny_ready (rs := [1, 2]) (by decide +kernel) (by simp) ?_
    refine AllReady.cons rfl (fun K hK => ?_) (AllReady.cons rfl (fun K hK => ?_) AllReady.nil)
    · go_simp
      go_wp2_with (go_at_call 19; refine (CF.out X BX).mono ?_; rintro e Y19 ⟨rfl, hb⟩)
      have BY19 : Below w.heap.size w Y19 := BX.trans (hb.mono BX.size)
      have KB := Lib.hid ((hb.block _ zb).trans KB.out)
      have zb := Nat.lt_of_lt_of_le zb hb.size
      clear hb
      refine wpAny_ready (rs := [2]) (by decide +kernel) (by simp) ?_
      refine AllReady.cons rfl (fun K hK => ?_) AllReady.nil
      have d0 : Y19.cell? ⟨tb, 0, none⟩ = some (.int .i64 h.k) := cell_of_block KB.out rfl
      have d1 : Y19.cell? ⟨tb, 1, none⟩ = some (.string ⟨h.l.toArray⟩) := cell_of_block KB.out rfl
      have d2 : Y19.cell? ⟨tb, 2, none⟩ = some (.slice aa h.ats.length ca) := cell_of_block KB.out rfl
      have d3 : Y19.cell? ⟨tb, 3, none⟩ = some (.int .i64 h.n) := cell_of_block KB.out rfl
      have d4 : Y19.cell? ⟨tb, 4, none⟩ = some (.int .i64 h.d) := cell_of_block KB.out rfl
      have d5 : Y19.cell? ⟨tb, 5, none⟩ = some (.string ⟨h.x.toArray⟩) := cell_of_block KB.out rfl
      have d6 : Y19.cell? ⟨tb, 6, none⟩ = some (.slice ak ks.len ck) := cell_of_block KB.out rfl
      go_simp
      refine hK _ _ ?_
      clear hK K d0 d1 d2 d3 d4 d5 d6
      refine wpAny_ready (rs := [3]) (by decide +kernel) (by simp) ?_
      refine AllReady.cons rfl (fun K hK => ?_) AllReady.nil
      go_simp
      refine hK _ _ ?_
      clear hK K
      have kk := World.alloc_heap_new Y19 (.cells #[.int .i64 h.k, .string ⟨h.l.toArray⟩, .slice aa h.ats.length ca, .int .i64 h.n, .int .i64 h.d, .string ⟨h.x.toArray⟩, .slice ak ks.len ck] 43)
      have hb : Below Y19.heap.size Y19 (Y19.alloc (.cells #[.int .i64 h.k, .string ⟨h.l.toArray⟩, .slice aa h.ats.length ca, .int .i64 h.n, .int .i64 h.d, .string ⟨h.x.toArray⟩, .slice ak ks.len ck] 43)) := (Below.refl _ _).alloc (Nat.le_refl _) _
      have hsz : (Y19.alloc (.cells #[.int .i64 h.k, .string ⟨h.l.toArray⟩, .slice aa h.ats.length ca, .int .i64 h.n, .int .i64 h.d, .string ⟨h.x.toArray⟩, .slice ak ks.len ck] 43)).heap.size = Y19.heap.size + 1 := by simp
      generalize Y19.alloc (.cells #[.int .i64 h.k, .string ⟨h.l.toArray⟩, .slice aa h.ats.length ca, .int .i64 h.n, .int .i64 h.d, .string ⟨h.x.toArray⟩, .slice ak ks.len ck] 43) = Y20 at *
      have BY20 : Below w.heap.size w Y20 := BY19.trans (hb.mono BY19.size)
      have KB := Lib.hid ((hb.block _ zb).trans KB.out)
      have zb := Nat.lt_of_lt_of_le zb hb.size
      have LT := Lib.hid (lies_one kk (HA.out Y20 BY20) (HK.out Y20 BY20))
      clear kk hb hsz
      refine wpAny_ready (rs := [4]) (by decide +kernel) (by simp) ?_
      refine AllReady.cons rfl (fun K hK => ?_) AllReady.nil
      go_simp
      go_wp2_with (go_at_call 19; refine (CT.out Y20 _ LT.out).mono ?_; rintro e Y21 ⟨rfl, hb⟩)
      have BY21 : Below w.heap.size w Y21 := BY20.trans (hb.mono BY20.size)
      have KB := Lib.hid ((hb.block _ zb).trans KB.out)
      have zb := Nat.lt_of_lt_of_le zb hb.size
      have LT := Lib.hid (lies_below LT.out hb)
      clear hb
      refine wpAny_ready (rs := [5]) (by decide +kernel) (by simp) ?_
      refine AllReady.cons rfl (fun K hK => ?_) AllReady.nil
      go_simp
      refine hK _ _ ?_
      clear hK K
      have kk := World.alloc_heap_new Y21 (.cells #[.int .i64 e1, .int .i64 e2] 32)
      have hb : Below Y21.heap.size Y21 (Y21.alloc (.cells #[.int .i64 e1, .int .i64 e2] 32)) := (Below.refl _ _).alloc (Nat.le_refl _) _
      have hsz : (Y21.alloc (.cells #[.int .i64 e1, .int .i64 e2] 32)).heap.size = Y21.heap.size + 1 := by simp
      generalize Y21.alloc (.cells #[.int .i64 e1, .int .i64 e2] 32) = Y22 at *
      have BY22 : Below w.heap.size w Y22 := BY21.trans (hb.mono BY21.size)
      have KB := Lib.hid ((hb.block _ zb).trans KB.out)
      have zb := Nat.lt_of_lt_of_le zb hb.size
      have LT := Lib.hid (lies_below LT.out hb)
      have HI := Lib.hid (ints_pair kk (by rw [hsz]; omega))
      clear kk hb hsz
      refine wpAny_ready (rs := [6]) (by decide +kernel) (by simp) ?_
      refine AllReady.cons rfl (fun K hK => ?_) AllReady.nil
      go_simp
      go_wp2_with (go_at_call 85; refine (TE.out _ [e1, e2] Y22 HI.out (by simp)).mono ?_; rintro e Y23 ⟨rfl, hb⟩)
      have BY23 : Below w.heap.size w Y23 := BY22.trans (hb.mono BY22.size)
      have KB := Lib.hid ((hb.block _ zb).trans KB.out)
      have zb := Nat.lt_of_lt_of_le zb hb.size
      have LT := Lib.hid (lies_below LT.out hb)
      clear hb
      refine wpAny_ready (rs := [7]) (by decide +kernel) (by simp) ?_
      refine AllReady.cons rfl (fun K hK => ?_) AllReady.nil
      go_simp
      refine hK _ _ ?_
      clear hK K
      refine wpAny_done (by decide +kernel) ?_ _
      go_wp2_with fail
      go_meet
      case rel => exact ⟨rfl, BY23, zb, KB.out⟩
    · have d0 : X.cell? ⟨tb, 0, none⟩ = some (.int .i64 h.k) := cell_of_block KB.out rfl
      have d1 : X.cell? ⟨tb, 1, none⟩ = some (.string ⟨h.l.toArray⟩) := cell_of_block KB.out rfl
      have d2 : X.cell? ⟨tb, 2, none⟩ = some (.slice aa h.ats.length ca) := cell_of_block KB.out rfl
      have d3 : X.cell? ⟨tb, 3, none⟩ = some (.int .i64 h.n) := cell_of_block KB.out rfl
      have d4 : X.cell? ⟨tb, 4, none⟩ = some (.int .i64 h.d) := cell_of_block KB.out rfl
      have d5 : X.cell? ⟨tb, 5, none⟩ = some (.string ⟨h.x.toArray⟩) := cell_of_block KB.out rfl
      have d6 : X.cell? ⟨tb, 6, none⟩ = some (.slice ak ks.len ck) := cell_of_block KB.out rfl
      go_simp
      refine hK _ _ ?_
      clear hK K d0 d1 d2 d3 d4 d5 d6
      refine wpAny_ready (rs := [1, 3]) (by decide +kernel) (by simp) ?_
      refine AllReady.cons rfl (fun K hK => ?_) (AllReady.cons rfl (fun K hK => ?_) AllReady.nil)
      · go_simp
        go_wp2_with (go_at_call 19; refine (CF.out X BX).mono ?_; rintro e Y24 ⟨rfl, hb⟩)
        have BY24 : Below w.heap.size w Y24 := BX.trans (hb.mono BX.size)
        have KB := Lib.hid ((hb.block _ zb).trans KB.out)
        have zb := Nat.lt_of_lt_of_le zb hb.size
        clear hb
        refine wpAny_ready (rs := [3]) (by decide +kernel) (by simp) ?_
        refine AllReady.cons rfl (fun K hK => ?_) AllReady.nil
        go_simp
        refine hK _ _ ?_
        clear hK K
        have kk := World.alloc_heap_new Y24 (.cells #[.int .i64 h.k, .string ⟨h.l.toArray⟩, .slice aa h.ats.length ca, .int .i64 h.n, .int .i64 h.d, .string ⟨h.x.toArray⟩, .slice ak ks.len ck] 43)
        have hb : Below Y24.heap.size Y24 (Y24.alloc (.cells #[.int .i64 h.k, .string ⟨h.l.toArray⟩, .slice aa h.ats.length ca, .int .i64 h.n, .int .i64 h.d, .string ⟨h.x.toArray⟩, .slice ak ks.len ck] 43)) := (Below.refl _ _).alloc (Nat.le_refl _) _
        have hsz : (Y24.alloc (.cells #[.int .i64 h.k, .string ⟨h.l.toArray⟩, .slice aa h.ats.length ca, .int .i64 h.n, .int .i64 h.d, .string ⟨h.x.toArray⟩, .slice ak ks.len ck] 43)).heap.size = Y24.heap.size + 1 := by simp
        generalize Y24.alloc (.cells #[.int .i64 h.k, .string ⟨h.l.toArray⟩, .slice aa h.ats.length ca, .int .i64 h.n, .int .i64 h.d, .string ⟨h.x.toArray⟩, .slice ak ks.len ck] 43) = Y25 at *
        have BY25 : Below w.heap.size w Y25 := BY24.trans (hb.mono BY24.size)
        have KB := Lib.hid ((hb.block _ zb).trans KB.out)
        have zb := Nat.lt_of_lt_of_le zb hb.size
        have LT := Lib.hid (lies_one kk (HA.out Y25 BY25) (HK.out Y25 BY25))
        clear kk hb hsz
        refine wpAny_ready (rs := [4]) (by decide +kernel) (by simp) ?_
        refine AllReady.cons rfl (fun K hK => ?_) AllReady.nil
        go_simp
        go_wp2_with (go_at_call 19; refine (CT.out Y25 _ LT.out).mono ?_; rintro e Y26 ⟨rfl, hb⟩)
        have BY26 : Below w.heap.size w Y26 := BY25.trans (hb.mono BY25.size)
        have KB := Lib.hid ((hb.block _ zb).trans KB.out)
        have zb := Nat.lt_of_lt_of_le zb hb.size
        have LT := Lib.hid (lies_below LT.out hb)
        clear hb
        refine wpAny_ready (rs := [5]) (by decide +kernel) (by simp) ?_
        refine AllReady.cons rfl (fun K hK => ?_) AllReady.nil
        go_simp
        refine hK _ _ ?_
        clear hK K
        have kk := World.alloc_heap_new Y26 (.cells #[.int .i64 e1, .int .i64 e2] 32)
        have hb : Below Y26.heap.size Y26 (Y26.alloc (.cells #[.int .i64 e1, .int .i64 e2] 32)) := (Below.refl _ _).alloc (Nat.le_refl _) _
        have hsz : (Y26.alloc (.cells #[.int .i64 e1, .int .i64 e2] 32)).heap.size = Y26.heap.size + 1 := by simp
        generalize Y26.alloc (.cells #[.int .i64 e1, .int .i64 e2] 32) = Y27 at *
        have BY27 : Below w.heap.size w Y27 := BY26.trans (hb.mono BY26.size)
        have KB := Lib.hid ((hb.block _ zb).trans KB.out)
        have zb := Nat.lt_of_lt_of_le zb hb.size
        have LT := Lib.hid (lies_below LT.out hb)
        have HI := Lib.hid (ints_pair kk (by rw [hsz]; omega))
        clear kk hb hsz
        refine wpAny_ready (rs := [6]) (by decide +kernel) (by simp) ?_
        refine AllReady.cons rfl (fun K hK => ?_) AllReady.nil
        go_simp
        go_wp2_with (go_at_call 85; refine (TE.out _ [e1, e2] Y27 HI.out (by simp)).mono ?_; rintro e Y28 ⟨rfl, hb⟩)
        have BY28 : Below w.heap.size w Y28 := BY27.trans (hb.mono BY27.size)
        have KB := Lib.hid ((hb.block _ zb).trans KB.out)
        have zb := Nat.lt_of_lt_of_le zb hb.size
        have LT := Lib.hid (lies_below LT.out hb)
        clear hb
        refine wpAny_ready (rs := [7]) (by decide +kernel) (by simp) ?_
        refine AllReady.cons rfl (fun K hK => ?_) AllReady.nil
        go_simp
        refine hK _ _ ?_
        clear hK K
        refine wpAny_done (by decide +kernel) ?_ _
        go_wp2_with fail
        go_meet
        case rel => exact ⟨rfl, BY28, zb, KB.out⟩
      · go_simp
        refine hK _ _ ?_
        clear hK K
        have kk := World.alloc_heap_new X (.cells #[.int .i64 h.k, .string ⟨h.l.toArray⟩, .slice aa h.ats.length ca, .int .i64 h.n, .int .i64 h.d, .string ⟨h.x.toArray⟩, .slice ak ks.len ck] 43)
        have hb : Below X.heap.size X (X.alloc (.cells #[.int .i64 h.k, .string ⟨h.l.toArray⟩, .slice aa h.ats.length ca, .int .i64 h.n, .int .i64 h.d, .string ⟨h.x.toArray⟩, .slice ak ks.len ck] 43)) := (Below.refl _ _).alloc (Nat.le_refl _) _
        have hsz : (X.alloc (.cells #[.int .i64 h.k, .string ⟨h.l.toArray⟩, .slice aa h.ats.length ca, .int .i64 h.n, .int .i64 h.d, .string ⟨h.x.toArray⟩, .slice ak ks.len ck] 43)).heap.size = X.heap.size + 1 := by simp
        generalize X.alloc (.cells #[.int .i64 h.k, .string ⟨h.l.toArray⟩, .slice aa h.ats.length ca, .int .i64 h.n, .int .i64 h.d, .string ⟨h.x.toArray⟩, .slice ak ks.len ck] 43) = Y29 at *
        have BY29 : Below w.heap.size w Y29 := BX.trans (hb.mono BX.size)
        have KB := Lib.hid ((hb.block _ zb).trans KB.out)
        have zb := Nat.lt_of_lt_of_le zb hb.size
        have LT := Lib.hid (lies_one kk (HA.out Y29 BY29) (HK.out Y29 BY29))
        clear kk hb hsz
        refine wpAny_ready (rs := [1]) (by decide +kernel) (by simp) ?_
        refine AllReady.cons rfl (fun K hK => ?_) AllReady.nil
        go_simp
        go_wp2_with (go_at_call 19; refine (CF.out Y29 BY29).mono ?_; rintro e Y30 ⟨rfl, hb⟩)
        have BY30 : Below w.heap.size w Y30 := BY29.trans (hb.mono BY29.size)
        have KB := Lib.hid ((hb.block _ zb).trans KB.out)
        have zb := Nat.lt_of_lt_of_le zb hb.size
        have LT := Lib.hid (lies_below LT.out hb)
        clear hb
        refine wpAny_ready (rs := [4]) (by decide +kernel) (by simp) ?_
        refine AllReady.cons rfl (fun K hK => ?_) AllReady.nil
        go_simp
        go_wp2_with (go_at_call 19; refine (CT.out Y30 _ LT.out).mono ?_; rintro e Y31 ⟨rfl, hb⟩)
        have BY31 : Below w.heap.size w Y31 := BY30.trans (hb.mono BY30.size)
        have KB := Lib.hid ((hb.block _ zb).trans KB.out)
        have zb := Nat.lt_of_lt_of_le zb hb.size
        have LT := Lib.hid (lies_below LT.out hb)
        clear hb
        refine wpAny_ready (rs := [5]) (by decide +kernel) (by simp) ?_
        refine AllReady.cons rfl (fun K hK => ?_) AllReady.nil
        go_simp
        refine hK _ _ ?_
        clear hK K
        have kk := World.alloc_heap_new Y31 (.cells #[.int .i64 e1, .int .i64 e2] 32)
        have hb : Below Y31.heap.size Y31 (Y31.alloc (.cells #[.int .i64 e1, .int .i64 e2] 32)) := (Below.refl _ _).alloc (Nat.le_refl _) _
        have hsz : (Y31.alloc (.cells #[.int .i64 e1, .int .i64 e2] 32)).heap.size = Y31.heap.size + 1 := by simp
        generalize Y31.alloc (.cells #[.int .i64 e1, .int .i64 e2] 32) = Y32 at *
        have BY32 : Below w.heap.size w Y32 := BY31.trans (hb.mono BY31.size)
        have KB := Lib.hid ((hb.block _ zb).trans KB.out)
        have zb := Nat.lt_of_lt_of_le zb hb.size
        have LT := Lib.hid (lies_below LT.out hb)
        have HI := Lib.hid (ints_pair kk (by rw [hsz]; omega))
        clear kk hb hsz
        refine wpAny_ready (rs := [6]) (by decide +kernel) (by simp) ?_
        refine AllReady.cons rfl (fun K hK => ?_) AllReady.nil
        go_simp
        go_wp2_with (go_at_call 85; refine (TE.out _ [e1, e2] Y32 HI.out (by simp)).mono ?_; rintro e Y33 ⟨rfl, hb⟩)
        have BY33 : Below w.heap.size w Y33 := BY32.trans (hb.mono BY32.size)
        have KB := Lib.hid ((hb.block _ zb).trans KB.out)
        have zb := Nat.lt_of_lt_of_le zb hb.size
        have LT := Lib.hid (lies_below LT.out hb)
        clear hb
        refine wpAny_ready (rs := [7]) (by decide +kernel) (by simp) ?_
        refine AllReady.cons rfl (fun K hK => ?_) AllReady.nil
        go_simp
        refine hK _ _ ?_
        clear hK K
        refine wpAny_done (by decide +kernel) ?_ _
        go_wp2_with fail
        go_meet
        case rel => exact ⟨rfl, BY33, zb, KB.out⟩

  case rest =>
    obtain ⟨rfl, BW2, zb, hkb⟩ := hcut
    have KB := Lib.hid hkb
    have FZ := Lib.hid (first_zero (l := [e1, e2]))
    clear hkb
    generalize firstNZ [e1, e2] = ee at *
    by_cases h0 : ee = 0
    rotate_left
    · have HX := HR.out.trans (if_neg h0)
      have b0 : (ee != 0) = true := by simpa using h0
      clear h0
      go_wp2_with fail
      go_ret2
      rw [HX]
      exact foE_none BW2
    · have HX0 := Lib.hid (HR.out.trans (if_pos h0))
      have b0 : (ee != 0) = false := by simpa using h0
      clear h0
      have d0 := (BW2.cell (p := ⟨pb0, po0 + q.length, none⟩) hpb).trans hpc
      have hpb2 : pb0 < wc.heap.size := by have := BW2.size; omega
      have QL := Lib.hid HQ.out
      go_upto_region 8 with (go_at_call 96; refine (FA.out wc BW2 pb0 po0 _ QL.out).mono ?_; rintro e W3 ⟨a3, c3, rfl, hL3, hb3⟩)
      have BW3 := BW2.trans (hb3.mono BW2.size)
      have KB := Lib.hid ((hb3.block _ zb).trans KB.out)
      have zb := Nat.lt_of_lt_of_le zb hb3.size
      have d0 := (BW3.cell (p := ⟨pb0, po0 + q.length, none⟩) hpb).trans hpc
      have hpb3 : pb0 < W3.heap.size := by have := BW3.size; omega
      clear hL3 hb3 hpb2 BW2
      by_cases hge : ge = 0
      rotate_left
      · have HX := HX0.out.trans (HU.out.trans (if_pos hge))
        have b1 : (ge != 0) = true := by simpa using hge
        clear hge
        go_wp2_with fail
        go_ret2
        rw [HX]
        exact foE_none BW3
      · subst hge
        have HU2 := Lib.hid (HU.out.trans (if_neg (by simp)))
        by_cases hx0 : x < 0
        · have HX := HX0.out.trans (HU2.out.trans (if_pos (Or.inl hx0)))
          have b2 : decide (x < 0) = true := by simpa using hx0
          clear hx0
          go_wp2_with fail
          go_ret2
          rw [HX]
          exact foE_none BW3
        · have b2 : decide (x < 0) = false := by simpa using hx0
          by_cases hx1 : (g.len : Int) < x
          · have HX := HX0.out.trans (HU2.out.trans (if_pos (Or.inr hx1)))
            have b3 : decide ((g.len : Int) < x) = true := by simpa using hx1
            clear hx0 hx1
            go_wp2_with fail
            go_ret2
            rw [HX]
            exact foE_none BW3
          · have b3 : decide ((g.len : Int) < x) = false := by simpa using hx1
            have SP2 := Lib.hid (SP.out g rfl (by rintro (h | h); exact hx0 h; exact hx1 h))
            clear hx0 hx1
            go_upto_region 12 with fail
            have d0 : W3.cell? ⟨tb, 0, none⟩ = some (.int .i64 h.k) := cell_of_block KB.out rfl
            have d1 : W3.cell? ⟨tb, 1, none⟩ = some (.string ⟨h.l.toArray⟩) := cell_of_block KB.out rfl
            have d2 : W3.cell? ⟨tb, 2, none⟩ = some (.slice aa h.ats.length ca) := cell_of_block KB.out rfl
            have d3 : W3.cell? ⟨tb, 3, none⟩ = some (.int .i64 h.n) := cell_of_block KB.out rfl
            have d4 : W3.cell? ⟨tb, 4, none⟩ = some (.int .i64 h.d) := cell_of_block KB.out rfl
            have d5 : W3.cell? ⟨tb, 5, none⟩ = some (.string ⟨h.x.toArray⟩) := cell_of_block KB.out rfl
            have d6 : W3.cell? ⟨tb, 6, none⟩ = some (.slice ak ks.len ck) := cell_of_block KB.out rfl
            have kk := World.alloc_heap_new W3 (.cells #[.int .i64 h.k, .string ⟨h.l.toArray⟩, .slice aa h.ats.length ca, .int .i64 h.n, .int .i64 h.d, .string ⟨h.x.toArray⟩, .slice ak ks.len ck] 43)
            have hb : Below W3.heap.size W3 (W3.alloc (.cells #[.int .i64 h.k, .string ⟨h.l.toArray⟩, .slice aa h.ats.length ca, .int .i64 h.n, .int .i64 h.d, .string ⟨h.x.toArray⟩, .slice ak ks.len ck] 43)) := (Below.refl _ _).alloc (Nat.le_refl _) _
            have BW4 : Below w.heap.size w (W3.alloc (.cells #[.int .i64 h.k, .string ⟨h.l.toArray⟩, .slice aa h.ats.length ca, .int .i64 h.n, .int .i64 h.d, .string ⟨h.x.toArray⟩, .slice ak ks.len ck] 43)) := BW3.trans (hb.mono BW3.size)
            have LT := Lib.hid (lies_one kk (HA.out _ BW4) (HK.out _ BW4))
            clear kk hb
            go_wp2_with fail
            generalize W3.alloc (.cells #[.int .i64 h.k, .string ⟨h.l.toArray⟩, .slice aa h.ats.length ca, .int .i64 h.n, .int .i64 h.d, .string ⟨h.x.toArray⟩, .slice ak ks.len ck] 43) = W4 at *

            have HX := HX0.out
            refine (SP2.out W4 BW4 _ LT.out).mono ?_
            rintro e w9 ⟨v9, rfl, hF9, hb9⟩
            have HF9 := Lib.hid (liesF_mono (B' := w.heap.size) BW4.size hF9)
            have B9 := BW4.trans (hb9.mono BW4.size)
            obtain ⟨a9, c9, rfl⟩ := liesF_form hF9
            clear hF9 hb9
            go_wp2_with fail
            go_ret2
            rw [HX]
            exact ⟨_, rfl, HF9.out, B9⟩
end Go.Proofs.YtcgedpfolloinaaGreat

namespace Go.Proofs.YtcgedpfolloinaaGreat
open Go.RowKit

/-- a tree as an argument. -/
def treeA (h : Hd) (va vk : Value) : Value := .agg #[.int .i64 h.k, .string ⟨h.l.toArray⟩, va, .int .i64 h.n, .int .i64 h.d, .string ⟨h.x.toArray⟩, vk]
theorem vis_split {f : Fo} {x : Vis} (hx : x ∈ seqAt [] 0 f) : ∃ q i g, x.p = q ++ [i] ∧ goTo f q = some g ∧ nth g i = some (x.h, x.ks) := by
  have h1 := place_at hx
  obtain ⟨q, i, e⟩ := snoc_of x.p (path_ne hx)
  rw [e] at h1
  obtain ⟨g, h2, h3⟩ := place_last q i f h1
  exact ⟨q, i, g, e, h2, h3⟩
theorem nat_path (q : List Nat) : (pathInts q).map Int.toNat = q := by
  induction q with
  | nil => rfl
  | cons a q ih => simp only [List.map_cons, Int.toNat_natCast, ih]
theorem place_zero {f : Fo} {q : List Nat} {i : Nat} {g : Fo} {x : Hd × Fo} (hg : goTo f q = some g) (hn : nth g i = some x) : placeErr f (pathInts (q ++ [i])) = 0 := by
  unfold placeErr
  rw [if_neg (by simp), go_place q i f hg hn]; rfl
theorem in_bnd (F : Fo) : (bndErr F = 0 ∧ inBnd F = (F, 0)) ∨ (inBnd F = (.nil, 4)) ∨ (inBnd F = (.nil, 8)) := by
  unfold inBnd
  by_cases h : bndErr F = 0
  · exact .inl ⟨h, by rw [if_pos h]⟩
  · rw [if_neg h]
    unfold bndErr at h ⊢
    by_cases h1 : 400 < F.size
    · rw [if_pos h1]; exact .inr (.inl rfl)
    · rw [if_neg h1] at h ⊢
      by_cases h2 : 40 < F.deep
      · rw [if_pos h2]; exact .inr (.inr rfl)
      · rw [if_neg h2] at h; exact absurd rfl h
theorem bnd_ok {F : Fo} (hb : bndErr F = 0) (hh : headsErr F = 0) : foErr F = 0 := by
  rw [foErr_eq, if_neg (by simpa using hb), hh]
theorem bnd_zero {F : Fo} (h : foErr F = 0) : bndErr F = 0 := by
  obtain ⟨h1, h2, -⟩ := fo_zero.1 h
  unfold bndErr
  rw [if_neg (by omega), if_neg (by omega)]
theorem in_ok {F : Fo} (h : foErr F = 0) : inBnd F = (F, 0) := by unfold inBnd; rw [if_pos (bnd_zero h)]
end Go.Proofs.YtcgedpfolloinaaGreat

namespace Go.Proofs.YtcgedpfolloinaaGreat
open Go.RowKit

/-- what Cut and Insert do, at a place that is there. -/
theorem cut_vals {f g : Fo} {q : List Nat} {i : Nat} {hw : Hd} {kw : Fo} {th : Hd} {tk : Fo} (z : foErr f = 0) (z1 : foErr (.cons th tk .nil) = 0) (hg : goTo f q = some g) (hn : nth g i = some (hw, kw)) :
    (cutV f (pathInts (q ++ [i])) = (changeAt f q (spl g i 1 .nil), 0) ∧ foErr (changeAt f q (spl g i 1 .nil)) = 0 ∧ (changeAt f q (spl g i 1 .nil)).size + (kw.size + 1) = f.size ∧
      insV (changeAt f q (spl g i 1 .nil)) (pathInts (q ++ [i])) (.cons hw kw .nil) = (f, 0)) ∧
    insV f (pathInts (q ++ [i])) (.cons th tk .nil) = inBnd (changeAt f q (spl g i 0 (.cons th tk .nil))) ∧ (bndErr (changeAt f q (spl g i 0 (.cons th tk .nil))) = 0 → foErr (changeAt f q (spl g i 0 (.cons th tk .nil))) = 0 ∧
      placeF (changeAt f q (spl g i 0 (.cons th tk .nil))) (pathInts (q ++ [i])) = some (th, tk) ∧ cutV (changeAt f q (spl g i 0 (.cons th tk .nil))) (pathInts (q ++ [i])) = (f, 0) ∧
      (changeAt f q (spl g i 0 (.cons th tk .nil))).size = f.size + (tk.size + 1)) := by
  have hz := (fo_zero.1 z).2.2
  have hi := nth_lt hn
  have ho := owns_go q f hg (by omega) hz
  have hgz := go_heads q f hg hz
  have hcut : ∀ (F G : Fo) (y : Hd × Fo), foErr F = 0 → goTo F q = some G → nth G i = some y → cutV F (pathInts (q ++ [i])) = inBnd (changeAt F q (spl G i 1 .nil)) := by
    intro F G y e1 e3 e4
    unfold cutV
    rw [e1, place_zero e3 e4, if_pos (by rfl), nat_path, changeF_at q F i 1 _ e3]
  have hins : ∀ (F G : Fo) (t : Fo), foErr F = 0 → foErr t = 0 → goTo F q = some G → ownsOk F q → i ≤ G.len → insV F (pathInts (q ++ [i])) t = inBnd (changeAt F q (spl G i 0 t)) := by
    intro F G t e1 e2 e3 e4 e5
    have hf := forest_owns q F e3 e4
    have hx : ¬ ((i : Int) < 0 ∨ (G.len : Int) < (i : Int)) := by omega
    have h1 := (insU_there (t := t) hf hx).1
    rw [show pathInts (q ++ [i]) = pathInts q ++ [(i : Int)] by simp, insV_snoc, e1, e2, if_pos (by rfl), h1, nat_path, Int.toNat_natCast]
  -- what is cut
  have s1 := changeAt_size q f (spl g i 1 .nil) hg
  have s2 := spl_size g i 1 .nil
  have s3 := take_size g i
  have s4 := drop_size1 hn
  have hL : headsErr (changeAt f q (spl g i 1 .nil)) = 0 := heads_change q f _ ho hz (spl_heads hgz rfl)
  have dL := change_deep q f _ hg (spl_deep g i)
  obtain ⟨z2, z3, -⟩ := fo_zero.1 z
  have zL : foErr (changeAt f q (spl g i 1 .nil)) = 0 := fo_zero.2 ⟨by simp only [Fo.size] at s2; omega, by omega, hL⟩
  have hg2 := goTo_change q f (spl g i 1 .nil) hg
  have zw : foErr (.cons hw kw .nil) = 0 := one_ok (go_place q i f hg hn) z
  have l2 := spl_len (g := g) (i := i) (n := 1) (by omega) .nil
  refine ⟨⟨by rw [hcut f g _ z hg hn, in_ok zL], zL, by simp only [Fo.size] at s2; omega, ?_⟩, hins f g _ z z1 hg ho (by omega), fun hb => ?_⟩
  · rw [hins _ _ _ zL zw hg2 (owns_change q f _ ho) (by simp only [Fo.len] at l2; omega), change_change q f _ _ hg, spl_back1 hn, changeAt_self q f hg, in_ok z]
  · have hS : headsErr (changeAt f q (spl g i 0 (.cons th tk .nil))) = 0 := heads_change q f _ ho hz (spl_heads hgz (fo_zero.1 z1).2.2)
    have zS := bnd_ok hb hS
    have hg3 := goTo_change q f (spl g i 0 (.cons th tk .nil)) hg
    have hn3 : nth (spl g i 0 (.cons th tk .nil)) i = some (th, tk) := spl_here (by omega) 0 th tk
    refine ⟨zS, go_place q i _ hg3 hn3, ?_, ?_⟩
    · rw [hcut _ _ _ zS hg3 hn3, change_change q f _ _ hg, spl_back2 (by omega), changeAt_self q f hg, in_ok z]
    · have t1 := changeAt_size q f (spl g i 0 (.cons th tk .nil)) hg
      have t2 := spl_size g i 0 (.cons th tk .nil)
      simp only [Fo.size, Nat.add_zero] at t2
      omega
theorem tinsert_any (f : Fo) (p : List Int) (h : Hd) (ks : Fo) (v pv : Value) (aa : Option Addr) (ca : Nat) (ak : Option Addr) (ck : Nat) (w : World) (hl : Lies w v f) (hp : IntsLie w pv p) (hpl : p.length ≤ 1000000) (ha : AttrsLie w (.slice aa h.ats.length ca) h.ats) (hk : Lies w (.slice ak ks.len ck) ks) (hs : Small f) (hs1 : Small (.cons h ks .nil)) :
    Calls Tryz.prog 46 #[v, pv, aggOf h aa ca ak ks.len ck] w (FoE w (insV f p (.cons h ks .nil))) := by
  by_cases hp0 : p = []
  · subst hp0
    exact tinsert_nil f h ks v pv aa ca ak ck w hl hp ha hk hs hs1
  · obtain ⟨q, x, rfl⟩ := snoc_of p hp0
    exact tinsert_snoc f q x h ks v pv aa ca ak ck w hl hp (by rw [List.length_append] at hpl; simp at hpl; omega) ha hk hs hs1
/-- the two parts of a row. -/
theorem lies_split {W : World} {v : Value} {f g : Fo} (h : Lies W v (f.app g)) (h0 : 0 < f.len) : ∃ ad c, v = .slice (some ad) (f.len + g.len) c ∧ f.len + g.len ≤ c ∧ f.len + g.len ≤ 2000000000000 ∧ Lies W (.slice (some ad) f.len c) f ∧
    Lies W (.slice (if c = f.len then some ad else some (ad.add (f.len * 7))) g.len (c - f.len)) g := by
  obtain ⟨b, o, cap, e, h1, h2, hb, hrow⟩ := lies_row h (by rw [Fo.len_app]; omega)
  rw [Fo.len_app] at e h1 h2
  have ht : ∀ (f g : Fo) (o : Nat), RowAt W (f.app g) b o → RowAt W f b o := by
    intro f
    induction f with
    | nil => intro g o _; trivial
    | cons hd ks r _ ih => intro g o H; exact ⟨H.1, H.2.1, ih g (o + 7) H.2.2⟩
  have hd := rowAt_drop f.len (f.app g) o hrow
  have hdr : ∀ (f g : Fo), (f.app g).drop f.len = g := by
    intro f
    induction f with
    | nil => intro g; simp [Fo.app, Fo.len, Fo.drop]
    | cons hd ks r _ ih => intro g; simp only [Fo.app, Fo.len, Fo.drop]; exact ih g
  rw [hdr] at hd
  refine ⟨⟨b, o, none⟩, cap, e, h1, h2, .inr ⟨b, o, cap, rfl, by omega, by omega, hb, ht f g o hrow⟩, ?_⟩
  by_cases hg : g.len = 0
  · rw [Fo.len_nil hg]
    exact .inl ⟨_, _, rfl, rfl⟩
  · rw [if_neg (by omega), Go.WideShapes.add_plain]
    exact .inr ⟨b, o + f.len * 7, cap - f.len, rfl, by omega, by omega, hb, hd⟩
end Go.Proofs.YtcgedpfolloinaaGreat

namespace Go.Proofs.YtcgedpfolloinaaGreat
open Go.ChangeShapes Go.WideShapes Go.ChangeAt Go.RowKit Go.Deep

theorem mem_all {H : Type} {P : Program} {e : TypeId} : ∀ {ds : List (DataW H)} {d : DataW H}, d ∈ ds → ∀ n ∈ d.weights P e, n ∈ DataW.weightsAll P e ds
  | d' :: r, d, hd, n, hn => by
    simp only [DataW.weightsAll, List.mem_append]
    rcases List.mem_cons.1 hd with rfl | hd
    · exact .inl hn
    · exact .inr (mem_all hd n hn)
theorem bytesAttr : Tryz.prog.bytesOf 81 = 32 := by kernel_rfl
theorem bytesTree : Tryz.prog.bytesOf 43 = 104 := by kernel_rfl
theorem cellsAttr : Tryz.prog.cellsOf 81 = 2 := by kernel_rfl
theorem cellsHead : Tryz.prog.cellsOf 27 = 6 := by kernel_rfl
theorem cellsTree : Tryz.prog.cellsOf 43 = 7 := by kernel_rfl
theorem cellsNumT : Tryz.prog.cellsOf 25 = 2 := by kernel_rfl
theorem cellsKind : Tryz.prog.cellsOf 22 = 1 := by kernel_rfl
theorem cellsStr : Tryz.prog.cellsOf 9 = 1 := by kernel_rfl
theorem cellsAttrs : Tryz.prog.cellsOf 23 = 1 := by kernel_rfl
theorem cellsTrees : Tryz.prog.cellsOf 28 = 1 := by kernel_rfl
theorem cellsInt : Tryz.prog.cellsOf 3 = 1 := by kernel_rfl
/-- no string, no slice of a datum is larger than memory. -/
def Fits {H : Type} (t : TypeId) (d : DataW H) : Prop := ∀ n ∈ d.weights Tryz.prog t, n ≤ reachBytes
theorem str_list (s : ByteArray) : ∃ l : List UInt8, s = ⟨l.toArray⟩ := ⟨s.data.toList, by cases s; simp⟩
theorem lt_of_cell' {w : World} {b o : Nat} {v : Value} (h : w.cell? ⟨b, o, none⟩ = some v) : b < w.heap.size := by
  by_cases hb : b < w.heap.size
  · exact hb
  · exfalso
    have : w.heap[b]? = none := Array.getElem?_eq_none (by omega)
    unfold World.cell? at h
    simp [this] at h

theorem tfields : ∃ a b, Tryz.prog.underlying 43 = some (.struct #[a, b]) ∧ a.type = 27 ∧ a.offset = 0 ∧ b.type = 28 ∧ b.offset = 6 := ⟨_, _, Tryz.underlying43, rfl, rfl, rfl, rfl⟩
theorem hfields : ∃ a b c d e, Tryz.prog.underlying 27 = some (.struct #[a, b, c, d, e]) ∧ (a.type = 22 ∧ a.offset = 0) ∧ (b.type = 9 ∧ b.offset = 1) ∧ (c.type = 23 ∧ c.offset = 2) ∧ (d.type = 25 ∧ d.offset = 3) ∧ (e.type = 9 ∧ e.offset = 5) :=
  ⟨_, _, _, _, _, Tryz.underlying27, ⟨rfl, rfl⟩, ⟨rfl, rfl⟩, ⟨rfl, rfl⟩, ⟨rfl, rfl⟩, ⟨rfl, rfl⟩⟩
theorem nfields : ∃ a b, Tryz.prog.underlying 25 = some (.struct #[a, b]) ∧ a.type = 3 ∧ a.offset = 0 ∧ b.type = 3 ∧ b.offset = 1 := ⟨_, _, Tryz.underlying25, rfl, rfl, rfl, rfl⟩
theorem afields : ∃ a b, Tryz.prog.underlying 81 = some (.struct #[a, b]) ∧ a.type = 9 ∧ a.offset = 0 ∧ b.type = 9 ∧ b.offset = 1 := ⟨_, _, Tryz.underlying81, rfl, rfl, rfl, rfl⟩

section
variable {H : Type} {enc : TypeId × Value → H} {W : World} {held : Bool}

set_option maxRecDepth 100000 in
theorem attrs_open {fuel : Nat} {v : Value} {x : DataW H × List MemPlace} (h : DataW.trod enc Tryz.prog W 0 (fun _ => true) held fuel 23 [v] = some x) (hf : Fits 23 x.1) : ∃ ats, AttrsLie W v ats := by
  obtain ⟨fa, fb, hu, ta, oa, tb, ob⟩ := afields
  rcases open_slice_pairs Tryz.underlying23 hu cellsAttr oa ob (by rw [ta]; exact cellsStr) (by rw [tb]; exact cellsStr) h with ⟨hcs, hx⟩ | ⟨a, len, cap, m, n, V0, V1, D0, D1, P0, P1, hcs, _, hle, hmax, hm, hx, hi⟩
  · simp at hcs
    subst hcs
    exact ⟨[], .inl ⟨_, _, rfl, rfl⟩⟩
  · simp at hcs
    subst hcs
    simp only [if_true] at hm
    by_cases h0 : len = 0
    · subst h0; exact ⟨[], .inl ⟨_, _, rfl, rfl⟩⟩
    · have hw : (len + (m - len)) * 32 ≤ reachBytes := by
        have := hf ((len + (m - len)) * Tryz.prog.bytesOf 81) (by
          subst hx
          simp only [DataW.weights, Tryz.underlying23]
          simp)
        rwa [bytesAttr] at this
      have hi' : ∀ i, i < len → ∃ x y : List UInt8, W.cell? (a.add (i * 2)) = some (.string ⟨x.toArray⟩) ∧ W.cell? (a.add (i * 2 + 1)) = some (.string ⟨y.toArray⟩) := by
        intro i hl
        obtain ⟨h1, h2, h3, h4⟩ := hi i (by omega)
        rw [ta] at h3
        rw [tb] at h4
        obtain ⟨x, e1, _, _⟩ := DataW.trod_string Tryz.underlying9 h3
        obtain ⟨y, e2, _, _⟩ := DataW.trod_string Tryz.underlying9 h4
        simp only [List.cons.injEq, and_true] at e1 e2
        obtain ⟨x, rfl⟩ := str_list x
        obtain ⟨y, rfl⟩ := str_list y
        exact ⟨x, y, by rw [h1, e1], by rw [h2, e2]⟩
      obtain ⟨b, off, spot⟩ := a
      obtain ⟨x0, y0, c0, _⟩ := hi' 0 (by omega)
      have hspot : spot = none := by simpa [Addr.add] using World.cell?_spot c0
      subst hspot
      have hb : b < W.heap.size := by
        rw [Go.WideShapes.add_plain] at c0
        exact lt_of_cell' c0
      have e : ∀ i, i < len → ∃ q : List UInt8 × List UInt8, W.cell? ⟨b, off + i * 2, none⟩ = some (.string ⟨q.1.toArray⟩) ∧ W.cell? ⟨b, off + i * 2 + 1, none⟩ = some (.string ⟨q.2.toArray⟩) := by
        intro i hl
        obtain ⟨x, y, h1, h2⟩ := hi' i hl
        rw [Go.WideShapes.add_plain] at h1 h2
        exact ⟨(x, y), h1, by rw [Nat.add_assoc]; exact h2⟩
      obtain ⟨q, hq⟩ := choose_lt e
      have hl : ((List.range len).map q).length = len := by simp
      refine ⟨(List.range len).map q, .inr ⟨b, off, cap, by rw [hl], by rw [hl]; exact hle, by rw [hl]; unfold reachBytes at hw; omega, hb, fun k hk => ?_⟩⟩
      have hk' : k < len := by rwa [hl] at hk
      have g : ((List.range len).map q).getD k ([], []) = q k := by
        rw [List.getD_eq_getElem?_getD]; simp [hk']
      rw [g]
      exact hq k hk'

set_option maxRecDepth 100000 in
theorem head_open {fuel : Nat} {cs : List Value} {x : DataW H × List MemPlace} (h : DataW.trod enc Tryz.prog W 0 (fun _ => true) held fuel 27 cs = some x) (hf : Fits 27 x.1) :
    ∃ (hd : Hd) (va : Value), cs = [.int .i64 hd.k, .string ⟨hd.l.toArray⟩, va, .int .i64 hd.n, .int .i64 hd.d, .string ⟨hd.x.toArray⟩] ∧ AttrsLie W va hd.ats := by
  obtain ⟨fa, fb, fc, fd, fe, hu, ⟨ta, oa⟩, ⟨tb, ob⟩, ⟨tc, oc⟩, ⟨td, od⟩, te, oe⟩ := hfields
  obtain ⟨xs, n, _, hx, hlen, hxl, hi⟩ := DataW.trod_struct hu h
  rw [cellsHead] at hlen
  obtain ⟨c0, c1, c2, c3, c4, c5, rfl⟩ : ∃ c0 c1 c2 c3 c4 c5, cs = [c0, c1, c2, c3, c4, c5] := by
    match cs, hlen with
    | [c0, c1, c2, c3, c4, c5], _ => exact ⟨c0, c1, c2, c3, c4, c5, rfl⟩
  obtain ⟨x0, x1, x2, x3, x4, rfl⟩ : ∃ x0 x1 x2 x3 x4, xs = [x0, x1, x2, x3, x4] := by
    match xs, hxl with
    | [x0, x1, x2, x3, x4], _ => exact ⟨x0, x1, x2, x3, x4, rfl⟩
  have i0 := hi 0 fa rfl
  have i1 := hi 1 fb rfl
  have i2 := hi 2 fc rfl
  have i3 := hi 3 fd rfl
  have i4 := hi 4 fe rfl
  rw [ta, oa, cellsKind] at i0
  rw [tb, ob, cellsStr] at i1
  rw [tc, oc, cellsAttrs] at i2
  rw [td, od, cellsNumT] at i3
  rw [te, oe, cellsStr] at i4
  simp at i0 i1 i2 i3 i4
  obtain ⟨k, e0, _, _⟩ := DataW.trod_int Tryz.underlying22 i0
  obtain ⟨l, e1, _, _⟩ := DataW.trod_string Tryz.underlying9 i1
  obtain ⟨t, e4, _, _⟩ := DataW.trod_string Tryz.underlying9 i4
  obtain ⟨ats, ha⟩ := attrs_open i2 (fun m hm => hf m (by
    subst hx
    simp only [DataW.weights, hu]
    refine DataW.weights_mem_each (j := 2) (t := 23) (d := x2.1) (by simp [tc]) (by simp) m hm))
  obtain ⟨na, nb, hun, tna, ona, tnb, onb⟩ := nfields
  obtain ⟨ys, n2, _, _, _, hyl, hj⟩ := DataW.trod_struct hun i3
  obtain ⟨y0, y1, rfl⟩ : ∃ y0 y1, ys = [y0, y1] := by
    match ys, hyl with
    | [y0, y1], _ => exact ⟨y0, y1, rfl⟩
  have j0 := hj 0 na rfl
  have j1 := hj 1 nb rfl
  rw [tna, ona, cellsInt] at j0
  rw [tnb, onb, cellsInt] at j1
  simp at j0 j1
  obtain ⟨n', g0, _, _⟩ := DataW.trod_int Tryz.underlying3 j0
  obtain ⟨d', g1, _, _⟩ := DataW.trod_int Tryz.underlying3 j1
  simp only [List.cons.injEq, and_true] at e0 e1 e4 g0 g1
  obtain ⟨l, rfl⟩ := str_list l
  obtain ⟨t, rfl⟩ := str_list t
  exact ⟨⟨k, l, ats, n', d', t⟩, c2, by rw [e0, e1, e4, g0, g1], ha⟩

def foOf : List (Hd × Fo) → Fo
  | [] => .nil
  | x :: r => .cons x.1 x.2 (foOf r)
theorem foOf_len : ∀ l : List (Hd × Fo), (foOf l).len = l.length
  | [] => rfl
  | x :: r => by simp only [foOf, Fo.len, List.length_cons, foOf_len r]
theorem foOf_row {b : Nat} : ∀ (l : List (Hd × Fo)) (o : Nat), (∀ k (hk : k < l.length), HdAt W (l[k]).1 b (o + k * 7) ∧ ∃ v, W.cell? ⟨b, o + k * 7 + 6, none⟩ = some v ∧ Lies W v (l[k]).2) → RowAt W (foOf l) b o
  | [], _, _ => trivial
  | x :: r, o, hk => by
    have h0 := hk 0 (by simp)
    simp only [Nat.zero_mul, Nat.add_zero, List.getElem_cons_zero] at h0
    refine rowAt_cons.2 ⟨h0.1, h0.2, foOf_row r (o + 7) fun k h => ?_⟩
    have := hk (k + 1) (by simpa using h)
    simp only [List.getElem_cons_succ] at this
    rw [show o + (k + 1) * 7 = o + 7 + k * 7 by omega] at this
    exact this
instance : Inhabited (Hd × Fo) := ⟨(⟨0, [], [], 0, 0, []⟩, .nil)⟩

set_option maxRecDepth 100000 in
theorem trees_open : ∀ (fuel : Nat) {v : Value} {x : DataW H × List MemPlace}, DataW.trod enc Tryz.prog W 0 (fun _ => true) held fuel 28 [v] = some x → Fits 28 x.1 → ∃ f, Lies W v f
  | 0, v, x, h, _ => by simp [DataW.trod] at h
  | 1, v, x, h, hf => by
    rcases DataW.trod_slice Tryz.underlying28 h with ⟨hcs, _⟩ | ⟨a, len, cap, elems, rest, n, hn, hcs, hx, _, hle, hmax, hlen, hel, hsp, _⟩
    · simp at hcs; subst hcs; exact ⟨.nil, .inl ⟨_, _, rfl, rfl⟩⟩
    · simp at hcs
      subst hcs
      obtain rfl : n = 0 := by omega
      cases len with
      | zero => exact ⟨.nil, .inl ⟨_, _, rfl, rfl⟩⟩
      | succ len =>
        have h0 := hel 0 (by omega)
        rw [List.getElem?_eq_getElem (by omega)] at h0
        obtain ⟨cs', _, h2⟩ := Option.bind_eq_some_iff.1 h0
        simp [DataW.trod] at h2
  | fuel + 2, v, x, h, hf => by
    rcases DataW.trod_slice Tryz.underlying28 h with ⟨hcs, _⟩ | ⟨a, len, cap, elems, rest, n, hn, hcs, hx, _, hle, hmax, hlen, hel, hsp, _⟩
    · simp at hcs; subst hcs; exact ⟨.nil, .inl ⟨_, _, rfl, rfl⟩⟩
    · simp at hcs
      subst hcs
      obtain rfl : n = fuel + 1 := by omega
      by_cases h0 : len = 0
      · subst h0; exact ⟨.nil, .inl ⟨_, _, rfl, rfl⟩⟩
      · have hw : (elems.length + rest.length) * 104 ≤ reachBytes := by
          have := hf ((elems.length + rest.length) * Tryz.prog.bytesOf 43) (by
            subst hx
            simp only [DataW.weights, Tryz.underlying28]
            simp)
          rwa [bytesTree] at this
        have hi' : ∀ i, i < len → ∃ q : Hd × Fo, (∃ va, W.cell? (a.add (i * 7)) = some (.int .i64 q.1.k) ∧ W.cell? (a.add (i * 7 + 1)) = some (.string ⟨q.1.l.toArray⟩) ∧ W.cell? (a.add (i * 7 + 2)) = some va ∧ AttrsLie W va q.1.ats ∧
            W.cell? (a.add (i * 7 + 3)) = some (.int .i64 q.1.n) ∧ W.cell? (a.add (i * 7 + 4)) = some (.int .i64 q.1.d) ∧ W.cell? (a.add (i * 7 + 5)) = some (.string ⟨q.1.x.toArray⟩)) ∧ ∃ vk, W.cell? (a.add (i * 7 + 6)) = some vk ∧ Lies W vk q.2 := by
          intro i hl
          have hi := hel i hl
          rw [cellsTree, List.getElem?_eq_getElem (by omega)] at hi
          obtain ⟨cs', hc, ht⟩ := Option.bind_eq_some_iff.1 hi
          obtain ⟨_, hcl, hcc⟩ := World.cells?_some hc
          obtain ⟨fa, fb, hu, ta, oa, tb, ob⟩ := tfields
          obtain ⟨xs, m, hm, hxx, _, hxl, hj⟩ := DataW.trod_struct hu ht
          obtain rfl : m = fuel := by omega
          obtain ⟨x0, x1, rfl⟩ : ∃ x0 x1, xs = [x0, x1] := by
            match xs, hxl with
            | [x0, x1], _ => exact ⟨x0, x1, rfl⟩
          obtain ⟨c0, c1, c2, c3, c4, c5, c6, rfl⟩ : ∃ c0 c1 c2 c3 c4 c5 c6, cs' = [c0, c1, c2, c3, c4, c5, c6] := by
            match cs', hcl with
            | [c0, c1, c2, c3, c4, c5, c6], _ => exact ⟨c0, c1, c2, c3, c4, c5, c6, rfl⟩
          have j0 := hj 0 fa rfl
          have j1 := hj 1 fb rfl
          rw [ta, oa, cellsHead] at j0
          rw [tb, ob, cellsTrees] at j1
          simp at j0 j1
          have hfit : Fits 43 (elems[i]).1 := fun n hn => hf n (by
            subst hx
            simp only [DataW.weights, Tryz.underlying28, List.mem_cons, List.mem_append]
            exact .inr (.inl (mem_all (by simp; exact ⟨_, List.getElem_mem _⟩) n hn)))
          rw [hxx] at hfit
          have hf0 : Fits 27 x0.1 := fun n hn => hfit n (by
            simp only [DataW.weights, hu]
            exact DataW.weights_mem_each (j := 0) (t := 27) (d := x0.1) (by simp [ta]) (by simp) n hn)
          have hf1 : Fits 28 x1.1 := fun n hn => hfit n (by
            simp only [DataW.weights, hu]
            exact DataW.weights_mem_each (j := 1) (t := 28) (d := x1.1) (by simp [tb]) (by simp) n hn)
          obtain ⟨hd, va, e, ha⟩ := head_open j0 hf0
          obtain ⟨ks, hk⟩ := trees_open m j1 hf1
          have g : ∀ k (hk : k < 7) u, [c0, c1, c2, c3, c4, c5, c6][k]? = some u → W.cell? (a.add (i * 7 + k)) = some u := fun k hk u hu => by
            rw [← Go.Deep.add_add]; exact (hcc k hk).trans hu
          simp only [List.cons.injEq, and_true] at e
          obtain ⟨rfl, rfl, rfl, rfl, rfl, rfl⟩ := e
          exact ⟨(hd, ks), ⟨c2, g 0 (by omega) _ rfl, g 1 (by omega) _ rfl, g 2 (by omega) _ rfl, ha, g 3 (by omega) _ rfl, g 4 (by omega) _ rfl, g 5 (by omega) _ rfl⟩, c6, g 6 (by omega) _ rfl, hk⟩
        obtain ⟨b, off, spot⟩ := a
        have hspot : spot = none := by
          obtain ⟨q, ⟨va, c0, _⟩, _⟩ := hi' 0 (by omega)
          simpa [Addr.add] using World.cell?_spot c0
        subst hspot
        obtain ⟨q, hq⟩ := choose_lt hi'
        have hb : b < W.heap.size := by
          obtain ⟨⟨va, c0, _⟩, _⟩ := hq 0 (by omega)
          rw [Go.WideShapes.add_plain] at c0
          exact lt_of_cell' c0
        have hl : (foOf ((List.range len).map q)).len = len := by rw [foOf_len]; simp
        refine ⟨foOf ((List.range len).map q), .inr ⟨b, off, cap, by rw [hl], by rw [hl]; exact hle, by rw [hl]; unfold reachBytes at hw; omega, hb, foOf_row _ off fun k hk => ?_⟩⟩
        have hk' : k < len := by simpa using hk
        obtain ⟨⟨va, c0, c1, c2, ha, c3, c4, c5⟩, vk, c6, hk6⟩ := hq k hk'
        rw [Go.WideShapes.add_plain] at c0 c1 c2 c3 c4 c5 c6
        simp only [List.getElem_map, List.getElem_range]
        exact ⟨⟨c0, by rw [Nat.add_assoc]; exact c1, ⟨va, by rw [Nat.add_assoc]; exact c2, ha⟩, by rw [Nat.add_assoc]; exact c3, by rw [Nat.add_assoc]; exact c4, by rw [Nat.add_assoc]; exact c5⟩, vk, by rw [Nat.add_assoc]; exact c6, hk6⟩
set_option maxRecDepth 100000 in
theorem tree_open {fuel : Nat} {cs : List Value} {x : DataW H × List MemPlace} (h : DataW.trod enc Tryz.prog W 0 (fun _ => true) held fuel 43 cs = some x) (hf : Fits 43 x.1) :
    ∃ (hd : Hd) (ks : Fo) (va vk : Value), cs = [.int .i64 hd.k, .string ⟨hd.l.toArray⟩, va, .int .i64 hd.n, .int .i64 hd.d, .string ⟨hd.x.toArray⟩, vk] ∧ AttrsLie W va hd.ats ∧ Lies W vk ks := by
  obtain ⟨fa, fb, hu, ta, oa, tb, ob⟩ := tfields
  obtain ⟨xs, m, _, hxx, hcl, hxl, hj⟩ := DataW.trod_struct hu h
  rw [cellsTree] at hcl
  obtain ⟨x0, x1, rfl⟩ : ∃ x0 x1, xs = [x0, x1] := by
    match xs, hxl with
    | [x0, x1], _ => exact ⟨x0, x1, rfl⟩
  obtain ⟨c0, c1, c2, c3, c4, c5, c6, rfl⟩ : ∃ c0 c1 c2 c3 c4 c5 c6, cs = [c0, c1, c2, c3, c4, c5, c6] := by
    match cs, hcl with
    | [c0, c1, c2, c3, c4, c5, c6], _ => exact ⟨c0, c1, c2, c3, c4, c5, c6, rfl⟩
  have j0 := hj 0 fa rfl
  have j1 := hj 1 fb rfl
  rw [ta, oa, cellsHead] at j0
  rw [tb, ob, cellsTrees] at j1
  simp at j0 j1
  rw [hxx] at hf
  have hf0 : Fits 27 x0.1 := fun n hn => hf n (by
    simp only [DataW.weights, hu]
    exact DataW.weights_mem_each (j := 0) (t := 27) (d := x0.1) (by simp [ta]) (by simp) n hn)
  have hf1 : Fits 28 x1.1 := fun n hn => hf n (by
    simp only [DataW.weights, hu]
    exact DataW.weights_mem_each (j := 1) (t := 28) (d := x1.1) (by simp [tb]) (by simp) n hn)
  obtain ⟨hd, va, e, ha⟩ := head_open j0 hf0
  obtain ⟨ks, hk⟩ := trees_open m j1 hf1
  simp only [List.cons.injEq, and_true] at e
  obtain ⟨rfl, rfl, rfl, rfl, rfl, rfl⟩ := e
  exact ⟨hd, ks, c2, c6, rfl, ha, hk⟩
end
end Go.Proofs.YtcgedpfolloinaaGreat
