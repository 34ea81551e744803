/- What the proof of PrfTreeChecks rests on, part 9 of 10. -/
import Derived.IntWalk
import Derived.Test.YtcgedpfolloinaaGreatPPrfTreeChecks8
namespace Go.Proofs.YtcgedpfolloinaaGreat
open Go.RowKit Go.Shelf
attribute [local go_sem] Oper.semAt_some

set_option maxRecDepth 100000 in
set_option maxHeartbeats 4000000 in
theorem next_in (f : Fo) (p : List Int) (v pv : Value) (w : World) (hl : Lies w v f) (hs : Small f) (hp : IntsLie w pv p) (hpl : p.length ≤ 1000000) (he : foErr f = 0) (hgo : ((placeF f p).isSome = true) ∨ p = []) :
    CallsIn Fence.wide 4 Tryz.prog 38 #[v, pv] w (NextRes w (nextF f p)) := by
  have hsz := hs.size
  have CH := Lib.hid (fun w1 (hw : Below w.heap.size w w1) => tcheck_any f v w1 (lies_below hl hw) hs)
  have TA := Lib.hid (fun w1 (hw : Below w.heap.size w w1) => treeAt_any f p v pv w1 (lies_below hl hw) (ints_below hp hw) hpl)
  have HL := Lib.hid hl
  have HP := Lib.hid hp
  obtain ⟨a, cap, rfl⟩ := lies_form hl
  obtain ⟨pa, pc, rfl⟩ := ints_form hp
  have HR := Lib.hid (show nextF f p = match nextV (seqAt [] 0 f) p with | none => ([], false, 0) | some q => (q, true, 0) from (if_neg (by simpa using he)).trans (if_neg (fun h => hgo.elim (fun h2 => by rw [h.1] at h2; cases h2) (fun h2 => h.2 h2))))
  rw [he] at CH
  clear hl hs hp he
  have N0 := NC.start w (.slice pa p.length pc)
  refine callsIn_of_wp_marks Tryz.func38 rfl trivial ?_ rfl
  simp only [Tryz.ntmps38, List.size_toArray, List.length_cons, List.length_nil, Nat.reduceAdd, Nat.reduceSub, Array.replicate_succ, Array.replicate_zero, List.push_toArray, List.append_toArray, List.nil_append, List.cons_append]
  gi_wp2_with fail
  generalize (((w.alloc (.cells #[.slice pa p.length pc] 41)).alloc (.cells #[.slice none 0 0] 41)).alloc (.cells #[.bool false] 4)).alloc (.cells #[.int .i64 0] 32) = W0 at *
  refine ⟨trivial, (callsIn_wide.2 (CH.out W0 N0.bel)).mono ?_⟩
  rintro e w1 ⟨rfl, hb1⟩
  have N1 := Lib.hid (N0.below hb1)
  clear N0 hb1
  obtain ⟨c0, c1, f1, c2, f2, c3, f3, size, bel⟩ := N1.out
  gi_wp2_with fail
  refine ⟨trivial, (callsIn_wide.2 (TA.out w1 bel)).mono ?_⟩
  rintro e w2 ⟨h, ks, aa, ca, ak, ck, rfl, -, -, -, hb2⟩
  unfold aggOf
  have N2 := Lib.hid (N1.out.below hb2)
  clear c0 c1 f1 c2 f2 c3 f3 size bel hb2
  obtain ⟨c0, c1, f1, c2, f2, c3, f3, size, bel⟩ := N2.out
  have z0 : w.heap.size < w2.heap.size := by omega
  have z1 : w.heap.size + 1 < w2.heap.size := by omega
  have z2 : w.heap.size + 1 + 1 < w2.heap.size := by omega
  have z3 : w.heap.size + 1 + 1 + 1 < w2.heap.size := by omega
  generalize hbs : (placeF f p).isSome = bs at *
  cases bs with
  | true =>
    gi_wp2_with (refine ⟨trivial, ?_⟩; gi_at_call 79; refine (trees_in _ _ _ _ _).mono ?_; rintro e w' ⟨rfl, rfl⟩)
    obtain ⟨W0, hW0⟩ : ∃ W0, (w2.alloc (.cells #[.int .i64 h.k, .string ⟨h.l.toArray⟩, .slice aa h.ats.length ca, .int .i64 h.n, .int .i64 h.d, .string ⟨h.x.toArray⟩, .slice ak ks.len ck] 43)).alloc (.cells #[.slice a f.len cap] 28) = W0 := ⟨_, rfl⟩
    have hz0 : W0.heap.size = w2.heap.size + 1 + 1 := by rw [← hW0]; simp
    have hx0 : Below w2.heap.size w2 W0 := by rw [← hW0]; exact ((Below.refl _ _).alloc (Nat.le_refl _) _).alloc (by simp) _
    have hN0 : NxI w (w2.heap.size + 1 + 1) p (.slice pa p.length pc) [] (fun k => k < w2.heap.size + 1 + 1) W0 := ⟨fun _ => Iff.rfl, N2.out.below hx0, rfl, by omega⟩
    have hB0 := hN0.nc.bel
    have hc0 : W0.cell? ⟨w2.heap.size + 1, 0, none⟩ = some (.slice a f.len cap) := by rw [← hW0]; simp [go_sem]
    rw [hW0]
    clear hW0 hx0 c0 c1 f1 c2 f2 c3 f3 bel z0 z1 z2 z3
    refine range_own (gf := 123) (lb := #[.pointer (some ⟨w2.heap.size + 1, 0, none⟩)]) rfl (enters_of Tryz.func123 (by kernel_rfl) rfl)
      (trees_seq f (.slice a f.len cap) w (w2.heap.size + 1) HL.out (by omega)) (by omega) ?st (fun x args W h => by obtain ⟨_, _, rfl, _⟩ := h; rfl)
      (NxI w (w2.heap.size + 1 + 1) p (.slice pa p.length pc)) (fun c pre W => c = .ret ∧ NxX w (w2.heap.size + 1 + 1) p (.slice pa p.length pc) pre W) (fun k => k < w2.heap.size + 1 + 1) ?hI ?hIs ?hIx (fun k hk => by omega) hN0
      (fun x a' W => ∃ (b0 : Option Addr) (c0 : Nat) (pv' tv : Value) (u0 u1 u2 u7 u8 u9 u11 u12 u13 u14 u15 u16 u17 u18 u19 u20 u21 u22 u23 u24 u25 u26 u27 u28 u29 u30 : Value), x ∈ seqAt [] 0 f ∧ IntsF 0 W (.slice b0 x.p.length c0) (pathInts x.p) ∧ a' = { tmps := #[u0, u1, u2, .pointer (some ⟨w.heap.size, 0, none⟩), .pointer (some ⟨w.heap.size + 1, 0, none⟩), .pointer (some ⟨w.heap.size + 1 + 1, 0, none⟩), .pointer (some ⟨w.heap.size + 1 + 1 + 1, 0, none⟩), u7, u8, u9, .slice b0 x.p.length c0, u11, u12, u13, u14, u15, u16, u17, u18, u19, u20, u21, u22, u23, u24, u25, u26, u27, u28, u29, u30, pv', tv, undef, undef, undef, undef, undef, undef], defers := [] })
      (fun x a' W l o o' hl ho h => by
        obtain ⟨b0, c0, pv', tv, u0, u1, u2, u7, u8, u9, u11, u12, u13, u14, u15, u16, u17, u18, u19, u20, u21, u22, u23, u24, u25, u26, u27, u28, u29, u30, h1, h2, h3⟩ := h
        exact ⟨b0, c0, pv', tv, u0, u1, u2, u7, u8, u9, u11, u12, u13, u14, u15, u16, u17, u18, u19, u20, u21, u22, u23, u24, u25, u26, u27, u28, u29, u30, h1, intsF_putObj hl ho h2, h3⟩) ?assign ?body ?done ?stop
    case st =>
      intro o
      refine ⟨hB0.trans ((((Below.refl _ W0).alloc (Nat.le_refl _) _).alloc (by simp) _).mono hB0.size), ?_⟩
      simp [go_sem, hz0, hc0]
    case hI => exact fun s G W W' h sp => h.spared sp (by omega)
    case hIs =>
      rintro s G W ⟨g, nc, no, size⟩ k hk
      have := (g k).1 hk; omega
    case hIx =>
      rintro c s W l o o' hl ho hc ⟨rfl, ⟨q, a, cap, hq, nc, hi⟩, size⟩
      exact ⟨rfl, ⟨q, a, cap, hq, nc.same (fun k _ hk => World.putObj_heap_other (by omega)) (by simp) (nc.bel.trans ⟨rfl, rfl, rfl, by simp, fun k hk => World.putObj_heap_other (by omega)⟩), intsF_putObj ho hc hi⟩, by simpa using size⟩
    case assign =>
      rintro n' l pre x args G W K hI ⟨pv', tv, rfl, hp, ht, hx⟩ hz hK
      obtain ⟨b0, c0, rfl⟩ := ints_form hp
      have hp2 := intsF_of hp
      simp only [List.length_map] at hp2 ⊢
      clear hp
      gi_wp2
      exact hK _ _ (But.refl _ _) (Below.refl _ _) hI ⟨b0, c0, _, tv, _, _, _, _, _, _, _, _, _, _, _, _, _, _, _, _, _, _, _, _, _, _, _, _, _, _, hx, hp2, rfl⟩
    case body =>
      rintro n' l pre x a' G W ⟨g, nc, no, size⟩ ⟨b0, c0, pv', tv, u0, u1, u2, u7, u8, u9, u11, u12, u13, u14, u15, u16, u17, u18, u19, u20, u21, u22, u23, u24, u25, u26, u27, u28, u29, u30, hx, hpi, rfl⟩ hz
      have hG1 : G (w.heap.size + 1) := (g _).2 (by omega)
      have hG2 : G (w.heap.size + 1 + 1) := (g _).2 (by omega)
      have hG3 : G (w.heap.size + 1 + 1 + 1) := (g _).2 (by omega)
      have HG := Lib.hid g
      have hpl2 := path_len hx
      have hxl : (pathInts x.p).length ≤ 1000000 := by simp at hpl2 ⊢; omega
      have CM := Lib.hid (compareInts_any (pathInts x.p) p _ _ W (intsF_lies hpi) (ints_below HP.out nc.bel) hxl hpl)
      have CL := Lib.hid (cloneInts_any _ (pathInts x.p) W (intsF_lies hpi) hxl)
      have HNV := Lib.hid (nextV_snoc (x := x) no)
      have NCC := Lib.hid nc
      have HXL := Lib.hid (show (pathInts x.p).length = x.p.length by simp)
      clear g no hx hpl2 hxl
      obtain ⟨c0', c1, f1, c2, f2, c3, f3, size', bel⟩ := nc
      gi_wp2_with fail
      refine ⟨trivial, fun h => (by cases h), (CallsIn.inRound l (callsIn_wide.2 CM.out)).mono ?_⟩
      rintro e w3 ⟨rfl, rfl⟩
      generalize cmpL (pathInts x.p) p = c at *
      by_cases hc : 0 < c
      · have dc : decide (0 < c) = true := by simpa using hc
        have HNX := Lib.hid (HNV.out.trans (if_pos hc))
        clear hc
        gi_wp2_with fail
        refine ⟨trivial, fun h => (by cases h), (CallsIn.inRound l (callsIn_wide.2 CL.out)).mono ?_⟩
        rintro e w4 ⟨v4, rfl, hi4, hb4⟩
        obtain ⟨a4, cap4, rfl⟩ := intsF_form hi4
        have N4 := Lib.hid (NCC.out.below hb4)
        have hs4 := hb4.size
        have HB4 := Lib.hid hb4
        have HI4 := Lib.hid hi4
        clear c0' c1 f1 c2 f2 c3 f3 size' bel hb4 hi4
        obtain ⟨c0', c1, f1, c2, f2, c3, f3, size', bel⟩ := N4.out
        gi_wp2_with fail
        have N5 := N4.out.set3 (.slice a4 x.p.length cap4) (.bool true) (.int .i64 0)
        have hkp := ((Keeps.setCell (B := w.heap.size + 4) w4 (b := w.heap.size + 1) (by omega) 0 (.slice a4 x.p.length cap4)).trans (Keeps.setCell _ (b := w.heap.size + 1 + 1) (by omega) 0 (.bool true))).trans (Keeps.setCell _ (b := w.heap.size + 1 + 1 + 1) (by omega) 0 (.int .i64 0))
        have hi5 := intsF_keeps (intsF_mono (B' := w.heap.size + 4) (by have := NCC.out.size; omega) HI4.out) hkp
        have hz5 := hkp.1
        exact ⟨(((But.of_below HB4.out).trans (But.setCell _ hG1 _)).trans (But.setCell _ hG2 _)).trans (But.setCell _ hG3 _), rfl, ⟨pathInts x.p, a4, cap4, HNX.out, by rw [HXL.out]; exact N5, hi5⟩, by omega⟩
      · have dc : decide (0 < c) = false := by simpa using hc
        have HNX := Lib.hid (HNV.out.trans (if_neg hc))
        clear hc
        gi_wp2_with fail
        exact ⟨But.refl _ _, Below.refl _ _, G, fun k hk => .inl hk, HG.out, NCC.out, HNX.out, size⟩
    case done =>
      rintro D ys G W hD rfl ⟨g, nc, no, size⟩ hK
      have NCC := Lib.hid nc
      obtain ⟨c0, c1, f1, c2, f2, c3, f3, size', bel⟩ := nc
      gi_wp2
      have HN := Lib.hid (show nextF f p = ([], false, 0) by rw [HR.out, no])
      clear c0 c1 f1 c2 f2 c3 f3 bel
      have hK2 : (((W.setCell ⟨w.heap.size + 1, 0, none⟩ (.slice none 0 0)).setCell ⟨w.heap.size + 1 + 1, 0, none⟩ (.bool false)).setCell ⟨w.heap.size + 1 + 1 + 1, 0, none⟩ (.int .i64 0)).heap[D]? = some (.deferred (some [])) := (((KeepsOthers.setCell W _ _).trans (KeepsOthers.setCell _ _ _)).trans (KeepsOthers.setCell _ _ _)).same D _ hK rfl
      refine ⟨by simp, .inl ⟨_, _, rfl, run_takeDeferred hK2, ?_⟩⟩
      have hb2 := belowK_b (w := W0) (Nat.le_refl _) _ D _ (.deferred none) (by simpa using hD) hK2 rfl rfl
      have N3 := NCC.out.set3 (.slice none 0 0) (.bool false) (.int .i64 0)
      have N4 := N3.same (fun k _ hk => hb2.block k (by omega)) hb2.size (N3.bel.trans (hb2.mono (by omega)))
      generalize (((W.setCell ⟨w.heap.size + 1, 0, none⟩ (.slice none 0 0)).setCell ⟨w.heap.size + 1 + 1, 0, none⟩ (.bool false)).setCell ⟨w.heap.size + 1 + 1 + 1, 0, none⟩ (.int .i64 0)).putObj D (.deferred none) = Wf at N4 ⊢
      obtain ⟨c0, c1, f1, c2, f2, c3, f3, size', bel⟩ := N4
      refine ⟨.tuple #[.slice none 0 0, .bool false, .int .i64 0], by simp (maxDischargeDepth := 8) [results, go_sem, Tryz.results38, c1, c2, c3], ?_⟩
      rw [HN.out]
      exact ⟨none, 0, rfl, .inl ⟨_, _, rfl, rfl⟩, bel⟩
    case stop =>
      rintro D c pre W hD hp ⟨rfl, ⟨q, aq, capq, hq, nc, hi⟩, size⟩ hK
      have HN := Lib.hid (show nextF f p = (q, true, 0) by rw [HR.out, nextV_pre hp hq])
      gi_wp2
      refine ⟨by simp, .inl ⟨_, _, rfl, run_takeDeferred hK, ?_⟩⟩
      have hb2 := belowK_b (w := W0) (Nat.le_refl _) _ D _ (.deferred none) (by simpa using hD) hK rfl rfl
      have N4 := nc.same (fun k _ hk => hb2.block k (by omega)) hb2.size (nc.bel.trans (hb2.mono (by omega)))
      have hi4 := intsF_putObj (o' := .deferred none) hK rfl hi
      generalize W.putObj D (.deferred none) = Wf at N4 hi4 ⊢
      obtain ⟨c0, c1, f1, c2, f2, c3, f3, size', bel⟩ := N4
      refine ⟨.tuple #[.slice aq q.length capq, .bool true, .int .i64 0], by simp (maxDischargeDepth := 8) [results, go_sem, Tryz.results38, c1, c2, c3], ?_⟩
      rw [HN.out]
      exact ⟨aq, capq, rfl, intsF_mono (by omega) hi4, bel⟩
  | false =>
    have hp0 : p = [] := hgo.resolve_left (by decide)
    have hpd : decide ((0 : Int) < (p.length : Int)) = false := decide_eq_false (by rw [hp0]; simp)
    have hpd2 : decide (0 < p.length) = false := decide_eq_false (by rw [hp0]; simp)
    clear hp0
    gi_wp2_with (refine ⟨trivial, ?_⟩; gi_at_call 79; refine (trees_in _ _ _ _ _).mono ?_; rintro e w' ⟨rfl, rfl⟩)
    obtain ⟨W0, hW0⟩ : ∃ W0, (w2.alloc (.cells #[.int .i64 h.k, .string ⟨h.l.toArray⟩, .slice aa h.ats.length ca, .int .i64 h.n, .int .i64 h.d, .string ⟨h.x.toArray⟩, .slice ak ks.len ck] 43)).alloc (.cells #[.slice a f.len cap] 28) = W0 := ⟨_, rfl⟩
    have hz0 : W0.heap.size = w2.heap.size + 1 + 1 := by rw [← hW0]; simp
    have hx0 : Below w2.heap.size w2 W0 := by rw [← hW0]; exact ((Below.refl _ _).alloc (Nat.le_refl _) _).alloc (by simp) _
    have hN0 : NxI w (w2.heap.size + 1 + 1) p (.slice pa p.length pc) [] (fun k => k < w2.heap.size + 1 + 1) W0 := ⟨fun _ => Iff.rfl, N2.out.below hx0, rfl, by omega⟩
    have hB0 := hN0.nc.bel
    have hc0 : W0.cell? ⟨w2.heap.size + 1, 0, none⟩ = some (.slice a f.len cap) := by rw [← hW0]; simp [go_sem]
    rw [hW0]
    clear hW0 hx0 c0 c1 f1 c2 f2 c3 f3 bel z0 z1 z2 z3
    refine range_own (gf := 123) (lb := #[.pointer (some ⟨w2.heap.size + 1, 0, none⟩)]) rfl (enters_of Tryz.func123 (by kernel_rfl) rfl)
      (trees_seq f (.slice a f.len cap) w (w2.heap.size + 1) HL.out (by omega)) (by omega) ?st (fun x args W h => by obtain ⟨_, _, rfl, _⟩ := h; rfl)
      (NxI w (w2.heap.size + 1 + 1) p (.slice pa p.length pc)) (fun c pre W => c = .ret ∧ NxX w (w2.heap.size + 1 + 1) p (.slice pa p.length pc) pre W) (fun k => k < w2.heap.size + 1 + 1) ?hI ?hIs ?hIx (fun k hk => by omega) hN0
      (fun x a' W => ∃ (b0 : Option Addr) (c0 : Nat) (pv' tv : Value) (u0 u1 u2 u7 u8 u9 u11 u12 u13 u14 u15 u16 u17 u18 u19 u20 u21 u22 u23 u24 u25 u26 u27 u28 u29 u30 : Value), x ∈ seqAt [] 0 f ∧ IntsF 0 W (.slice b0 x.p.length c0) (pathInts x.p) ∧ a' = { tmps := #[u0, u1, u2, .pointer (some ⟨w.heap.size, 0, none⟩), .pointer (some ⟨w.heap.size + 1, 0, none⟩), .pointer (some ⟨w.heap.size + 1 + 1, 0, none⟩), .pointer (some ⟨w.heap.size + 1 + 1 + 1, 0, none⟩), u7, u8, u9, .slice b0 x.p.length c0, u11, u12, u13, u14, u15, u16, u17, u18, u19, u20, u21, u22, u23, u24, u25, u26, u27, u28, u29, u30, pv', tv, undef, undef, undef, undef, undef, undef], defers := [] })
      (fun x a' W l o o' hl ho h => by
        obtain ⟨b0, c0, pv', tv, u0, u1, u2, u7, u8, u9, u11, u12, u13, u14, u15, u16, u17, u18, u19, u20, u21, u22, u23, u24, u25, u26, u27, u28, u29, u30, h1, h2, h3⟩ := h
        exact ⟨b0, c0, pv', tv, u0, u1, u2, u7, u8, u9, u11, u12, u13, u14, u15, u16, u17, u18, u19, u20, u21, u22, u23, u24, u25, u26, u27, u28, u29, u30, h1, intsF_putObj hl ho h2, h3⟩) ?assign ?body ?done ?stop
    case st =>
      intro o
      refine ⟨hB0.trans ((((Below.refl _ W0).alloc (Nat.le_refl _) _).alloc (by simp) _).mono hB0.size), ?_⟩
      simp [go_sem, hz0, hc0]
    case hI => exact fun s G W W' h sp => h.spared sp (by omega)
    case hIs =>
      rintro s G W ⟨g, nc, no, size⟩ k hk
      have := (g k).1 hk; omega
    case hIx =>
      rintro c s W l o o' hl ho hc ⟨rfl, ⟨q, a, cap, hq, nc, hi⟩, size⟩
      exact ⟨rfl, ⟨q, a, cap, hq, nc.same (fun k _ hk => World.putObj_heap_other (by omega)) (by simp) (nc.bel.trans ⟨rfl, rfl, rfl, by simp, fun k hk => World.putObj_heap_other (by omega)⟩), intsF_putObj ho hc hi⟩, by simpa using size⟩
    case assign =>
      rintro n' l pre x args G W K hI ⟨pv', tv, rfl, hp, ht, hx⟩ hz hK
      obtain ⟨b0, c0, rfl⟩ := ints_form hp
      have hp2 := intsF_of hp
      simp only [List.length_map] at hp2 ⊢
      clear hp
      gi_wp2
      exact hK _ _ (But.refl _ _) (Below.refl _ _) hI ⟨b0, c0, _, tv, _, _, _, _, _, _, _, _, _, _, _, _, _, _, _, _, _, _, _, _, _, _, _, _, _, _, hx, hp2, rfl⟩
    case body =>
      rintro n' l pre x a' G W ⟨g, nc, no, size⟩ ⟨b0, c0, pv', tv, u0, u1, u2, u7, u8, u9, u11, u12, u13, u14, u15, u16, u17, u18, u19, u20, u21, u22, u23, u24, u25, u26, u27, u28, u29, u30, hx, hpi, rfl⟩ hz
      have hG1 : G (w.heap.size + 1) := (g _).2 (by omega)
      have hG2 : G (w.heap.size + 1 + 1) := (g _).2 (by omega)
      have hG3 : G (w.heap.size + 1 + 1 + 1) := (g _).2 (by omega)
      have HG := Lib.hid g
      have hpl2 := path_len hx
      have hxl : (pathInts x.p).length ≤ 1000000 := by simp at hpl2 ⊢; omega
      have CM := Lib.hid (compareInts_any (pathInts x.p) p _ _ W (intsF_lies hpi) (ints_below HP.out nc.bel) hxl hpl)
      have CL := Lib.hid (cloneInts_any _ (pathInts x.p) W (intsF_lies hpi) hxl)
      have HNV := Lib.hid (nextV_snoc (x := x) no)
      have NCC := Lib.hid nc
      have HXL := Lib.hid (show (pathInts x.p).length = x.p.length by simp)
      clear g no hx hpl2 hxl
      obtain ⟨c0', c1, f1, c2, f2, c3, f3, size', bel⟩ := nc
      gi_wp2_with fail
      refine ⟨trivial, fun h => (by cases h), (CallsIn.inRound l (callsIn_wide.2 CM.out)).mono ?_⟩
      rintro e w3 ⟨rfl, rfl⟩
      generalize cmpL (pathInts x.p) p = c at *
      by_cases hc : 0 < c
      · have dc : decide (0 < c) = true := by simpa using hc
        have HNX := Lib.hid (HNV.out.trans (if_pos hc))
        clear hc
        gi_wp2_with fail
        refine ⟨trivial, fun h => (by cases h), (CallsIn.inRound l (callsIn_wide.2 CL.out)).mono ?_⟩
        rintro e w4 ⟨v4, rfl, hi4, hb4⟩
        obtain ⟨a4, cap4, rfl⟩ := intsF_form hi4
        have N4 := Lib.hid (NCC.out.below hb4)
        have hs4 := hb4.size
        have HB4 := Lib.hid hb4
        have HI4 := Lib.hid hi4
        clear c0' c1 f1 c2 f2 c3 f3 size' bel hb4 hi4
        obtain ⟨c0', c1, f1, c2, f2, c3, f3, size', bel⟩ := N4.out
        gi_wp2_with fail
        have N5 := N4.out.set3 (.slice a4 x.p.length cap4) (.bool true) (.int .i64 0)
        have hkp := ((Keeps.setCell (B := w.heap.size + 4) w4 (b := w.heap.size + 1) (by omega) 0 (.slice a4 x.p.length cap4)).trans (Keeps.setCell _ (b := w.heap.size + 1 + 1) (by omega) 0 (.bool true))).trans (Keeps.setCell _ (b := w.heap.size + 1 + 1 + 1) (by omega) 0 (.int .i64 0))
        have hi5 := intsF_keeps (intsF_mono (B' := w.heap.size + 4) (by have := NCC.out.size; omega) HI4.out) hkp
        have hz5 := hkp.1
        exact ⟨(((But.of_below HB4.out).trans (But.setCell _ hG1 _)).trans (But.setCell _ hG2 _)).trans (But.setCell _ hG3 _), rfl, ⟨pathInts x.p, a4, cap4, HNX.out, by rw [HXL.out]; exact N5, hi5⟩, by omega⟩
      · have dc : decide (0 < c) = false := by simpa using hc
        have HNX := Lib.hid (HNV.out.trans (if_neg hc))
        clear hc
        gi_wp2_with fail
        exact ⟨But.refl _ _, Below.refl _ _, G, fun k hk => .inl hk, HG.out, NCC.out, HNX.out, size⟩
    case done =>
      rintro D ys G W hD rfl ⟨g, nc, no, size⟩ hK
      have NCC := Lib.hid nc
      obtain ⟨c0, c1, f1, c2, f2, c3, f3, size', bel⟩ := nc
      gi_wp2
      have HN := Lib.hid (show nextF f p = ([], false, 0) by rw [HR.out, no])
      clear c0 c1 f1 c2 f2 c3 f3 bel
      have hK2 : (((W.setCell ⟨w.heap.size + 1, 0, none⟩ (.slice none 0 0)).setCell ⟨w.heap.size + 1 + 1, 0, none⟩ (.bool false)).setCell ⟨w.heap.size + 1 + 1 + 1, 0, none⟩ (.int .i64 0)).heap[D]? = some (.deferred (some [])) := (((KeepsOthers.setCell W _ _).trans (KeepsOthers.setCell _ _ _)).trans (KeepsOthers.setCell _ _ _)).same D _ hK rfl
      refine ⟨by simp, .inl ⟨_, _, rfl, run_takeDeferred hK2, ?_⟩⟩
      have hb2 := belowK_b (w := W0) (Nat.le_refl _) _ D _ (.deferred none) (by simpa using hD) hK2 rfl rfl
      have N3 := NCC.out.set3 (.slice none 0 0) (.bool false) (.int .i64 0)
      have N4 := N3.same (fun k _ hk => hb2.block k (by omega)) hb2.size (N3.bel.trans (hb2.mono (by omega)))
      generalize (((W.setCell ⟨w.heap.size + 1, 0, none⟩ (.slice none 0 0)).setCell ⟨w.heap.size + 1 + 1, 0, none⟩ (.bool false)).setCell ⟨w.heap.size + 1 + 1 + 1, 0, none⟩ (.int .i64 0)).putObj D (.deferred none) = Wf at N4 ⊢
      obtain ⟨c0, c1, f1, c2, f2, c3, f3, size', bel⟩ := N4
      refine ⟨.tuple #[.slice none 0 0, .bool false, .int .i64 0], by simp (maxDischargeDepth := 8) [results, go_sem, Tryz.results38, c1, c2, c3], ?_⟩
      rw [HN.out]
      exact ⟨none, 0, rfl, .inl ⟨_, _, rfl, rfl⟩, bel⟩
    case stop =>
      rintro D c pre W hD hp ⟨rfl, ⟨q, aq, capq, hq, nc, hi⟩, size⟩ hK
      have HN := Lib.hid (show nextF f p = (q, true, 0) by rw [HR.out, nextV_pre hp hq])
      gi_wp2
      refine ⟨by simp, .inl ⟨_, _, rfl, run_takeDeferred hK, ?_⟩⟩
      have hb2 := belowK_b (w := W0) (Nat.le_refl _) _ D _ (.deferred none) (by simpa using hD) hK rfl rfl
      have N4 := nc.same (fun k _ hk => hb2.block k (by omega)) hb2.size (nc.bel.trans (hb2.mono (by omega)))
      have hi4 := intsF_putObj (o' := .deferred none) hK rfl hi
      generalize W.putObj D (.deferred none) = Wf at N4 hi4 ⊢
      obtain ⟨c0, c1, f1, c2, f2, c3, f3, size', bel⟩ := N4
      refine ⟨.tuple #[.slice aq q.length capq, .bool true, .int .i64 0], by simp (maxDischargeDepth := 8) [results, go_sem, Tryz.results38, c1, c2, c3], ?_⟩
      rw [HN.out]
      exact ⟨aq, capq, rfl, intsF_mono (by omega) hi4, bel⟩

theorem next_any (f : Fo) (p : List Int) (v pv : Value) (w : World) (hl : Lies w v f) (hs : Small f) (hp : IntsLie w pv p) (hpl : p.length ≤ 1000000) :
    Calls Tryz.prog 38 #[v, pv] w (NextRes w (nextF f p)) := by
  by_cases he : foErr f = 0
  · by_cases h : (placeF f p).isSome = false ∧ p ≠ []
    · exact next_absent f p v pv w hl hs hp hpl he h.1 h.2
    · refine callsIn_wide.1 (next_in f p v pv w hl hs hp hpl he ?_)
      by_cases hp0 : p = []
      · exact .inr hp0
      · refine .inl ?_
        cases hq : (placeF f p).isSome with
        | true => rfl
        | false => exact absurd ⟨hq, hp0⟩ h
  · exact next_err f p v pv w hl hs hp he
end Go.Proofs.YtcgedpfolloinaaGreat

namespace Go.Proofs.YtcgedpfolloinaaGreat
open Go.RowKit

theorem toldS_len {n d : Int} (h : chk n d = 0) : (toldS n d).length ≤ 22 := by
  obtain ⟨f1, f2, f3, f4⟩ := fit_of_chk h
  have h1 := numText1_len (n := (n.natAbs : Int)) (if d = 1 then [] else 47 :: numText d 1 []) (by omega)
  have h2 := numText1_len (n := d) [] (by omega)
  have h3 := signText_len n (numText (n.natAbs : Int) 1 (if d = 1 then [] else 47 :: numText d 1 []))
  have h4 : (if d = 1 then ([] : List UInt8) else 47 :: numText d 1 []).length ≤ 11 := by split <;> simp at h2 ⊢; omega
  unfold toldS
  omega
theorem printable_ok {l : List UInt8} {most : Int} (h : printableB l most = true) : (∀ c ∈ l, c.toNat < 128) ∧ (l.length : Int) ≤ most := by
  unfold printableB at h
  simp only [Bool.and_eq_true, decide_eq_true_eq, List.all_eq_true] at h
  exact ⟨fun c hc => by have := h.1 c hc; omega, h.2⟩
theorem named_ok {l : List UInt8} (h : namedB l = true) : l.length ≤ 8 := by
  unfold namedB at h
  simp only [Bool.and_eq_true, decide_eq_true_eq] at h
  omega
theorem attrs_ok : ∀ (ats : List (List UInt8 × List UInt8)) (before : List UInt8), attrsErr before ats = 0 → ∀ q ∈ ats, q.1.length ≤ 8 ∧ q.2.length ≤ 12 ∧ ∀ c ∈ q.2, c.toNat < 128
  | [], _, _, q, hq => by simp at hq
  | (n, v) :: r, before, h, q, hq => by
    simp only [attrsErr] at h
    by_cases h1 : namedB n = false
    · rw [if_pos h1] at h; cases h
    · rw [if_neg h1] at h
      by_cases h2 : leB n before = true
      · rw [if_pos h2] at h; cases h
      · rw [if_neg h2] at h
        by_cases h3 : printableB v 12 = false
        · rw [if_pos h3] at h; cases h
        · rw [if_neg h3] at h
          rcases List.mem_cons.1 hq with rfl | hq
          · have := printable_ok (by simpa using h3 : printableB v 12 = true)
            exact ⟨named_ok (by simpa using h1), by have := this.2; show v.length ≤ 12; omega, this.1⟩
          · exact attrs_ok r n h q hq
theorem quoQ_le (s : List UInt8) : (quoQ s).length ≤ 2 * s.length + 2 := by have := escQ_len s; simp [quoQ]; omega
theorem atsQ_le : ∀ (ats : List (List UInt8 × List UInt8)) (m : UInt8), (∀ q ∈ ats, q.1.length ≤ 8 ∧ q.2.length ≤ 12) → (atsQ m ats).length ≤ 36 * ats.length
  | [], m, _ => by simp [atsQ]
  | q :: t, m, h => by
    have h1 := atsQ_le t 44 (fun q hq => h q (by simp [hq]))
    have h2 := h q (by simp)
    have h3 := quoQ_le q.2
    simp only [atsQ, List.length_cons, List.length_append]
    omega
theorem head_ok {h : Hd} (e : headErr h = 0) : HdAsc h ∧ ∀ ks, (treeQ h ks).length ≤ 119 + (foQ true ks).length := by
  unfold headErr at e
  by_cases h0 : strayB h = true
  · rw [if_pos h0] at e; cases e
  rw [if_neg h0] at e
  unfold strayB at h0
  by_cases h1 : h.k = 1
  · rw [if_pos h1] at e
    simp [h1] at h0
    refine ⟨⟨by rw [h0.1]; simp, by rw [h0.2.2]; simp⟩, fun ks => ?_⟩
    have := toldS_len e
    unfold treeQ printE
    rw [if_pos h1, if_pos e]; omega
  · rw [if_neg h1] at e
    by_cases h2 : h.k = 2
    · rw [if_pos h2] at e
      simp [h2] at h0
      have hp : printableB h.x 24 = true := by
        by_cases hp : printableB h.x 24 = true
        · exact hp
        · rw [if_neg hp] at e; cases e
      have := printable_ok hp
      refine ⟨⟨this.1, by rw [h0.2.2]; simp⟩, fun ks => ?_⟩
      have := quoQ_le h.x
      unfold treeQ
      rw [if_neg h1, if_pos h2]; omega
    · rw [if_neg h2] at e
      by_cases h3 : h.k = 0
      · simp [h3] at h0
        unfold elemErr at e
        by_cases g1 : namedB h.l = false
        · rw [if_pos g1] at e; cases e
        rw [if_neg g1] at e
        by_cases g2 : 3 < h.ats.length
        · rw [if_pos g2] at e; cases e
        rw [if_neg g2] at e
        have ha := attrs_ok _ _ e
        refine ⟨⟨by rw [h0.2]; simp, fun q hq => (ha q hq).2.2⟩, fun ks => ?_⟩
        have hl := named_ok (by simpa using g1 : namedB h.l = true)
        have hb := atsQ_le h.ats 40 (fun q hq => ⟨(ha q hq).1, (ha q hq).2.1⟩)
        have hq : (attrsQ h.ats).length ≤ 109 := by unfold attrsQ; split <;> simp; omega
        unfold treeQ elemQ
        rw [if_neg h1, if_neg h2]
        simp only [List.length_append]
        split <;> simp <;> omega
      · simp [h1, h2, h3] at h0
theorem fo_ok : ∀ f : Fo, headsErr f = 0 → foAsc f ∧ ∀ b, (foQ b f).length ≤ 120 * f.size
  | .nil, _ => ⟨trivial, fun b => by simp [foQ, Fo.size]⟩
  | .cons h ks r, e => by
    unfold headsErr at e
    by_cases h1 : headErr h ≠ 0
    · rw [if_pos h1] at e; exact absurd e h1
    rw [if_neg h1] at e
    by_cases h2 : h.k ≠ 0 ∧ ks.len ≠ 0
    · rw [if_pos h2] at e; cases e
    rw [if_neg h2] at e
    by_cases h3 : headsErr ks ≠ 0
    · rw [if_pos h3] at e; exact absurd e h3
    rw [if_neg h3] at e
    have hh := head_ok (h := h) (by simpa using h1)
    have hk := fo_ok ks (by simpa using h3)
    have hr := fo_ok r e
    refine ⟨⟨hh.1, hk.1, hr.1⟩, fun b => ?_⟩
    have a1 := hh.2 ks
    have a2 := hk.2 true
    have a3 := hr.2 false
    simp only [foQ_cons, List.length_append, Fo.size]
    have : (if b = true then ([] : List UInt8) else [32]).length ≤ 1 := by split <;> simp
    omega
theorem valid_ok {f : Fo} (h : foErr f = 0) : foAsc f ∧ (foQ true f).length ≤ 48000 := by
  unfold foErr at h
  by_cases h1 : 400 < f.size
  · rw [if_pos h1] at h; cases h
  rw [if_neg h1] at h
  by_cases h2 : 40 < f.deep
  · rw [if_pos h2] at h; cases h
  rw [if_neg h2] at h
  have := fo_ok f h
  exact ⟨this.1, by have := this.2 true; omega⟩
theorem print_tree (f : Fo) (v : Value) (w : World) (hl : Lies w v f) (hs : Small f) :
    Calls Tryz.prog 56 #[v] w fun e w' => e = .returned (.tuple #[.string ⟨(printF f).1.toArray⟩, .int .i64 (printF f).2]) ∧ Below w.heap.size w w' :=
  tprint_all f v w hl hs (fun h => ⟨(valid_ok h).1, by have := (valid_ok h).2; omega⟩)
end Go.Proofs.YtcgedpfolloinaaGreat

namespace Go.Proofs.YtcgedpfolloinaaGreat
open Go.RowKit

def hdVal (h : Hd) (aa : Option Addr) (ca : Nat) : Value := .agg #[.int .i64 h.k, .string ⟨h.l.toArray⟩, .slice aa h.ats.length ca, .int .i64 h.n, .int .i64 h.d, .string ⟨h.x.toArray⟩]

set_option maxRecDepth 100000 in
set_option maxHeartbeats 2000000 in
theorem sameHead_refl (h : Hd) (aa : Option Addr) (ca : Nat) (ab : Option Addr) (cb : Nat) (w : World) (ha : AttrsLie w (.slice aa h.ats.length ca) h.ats) (hb : AttrsLie w (.slice ab h.ats.length cb) h.ats) :
    Calls Tryz.prog 63 #[hdVal h aa ca, hdVal h ab cb] w fun e w' => e = .returned (.bool true) ∧ Below w.heap.size w w' := by
  have HA := Lib.hid ha
  have HB := Lib.hid hb
  have hal : h.ats.length ≤ 4398046510976 := by
    rcases ha with ⟨_, _, _, h0⟩ | ⟨_, _, _, _, _, h0, _⟩
    · rw [h0]; simp
    · exact h0
  clear ha hb
  unfold hdVal
  go_enter Tryz.func63, Tryz.ntmps63
  go_wp2_with fail
  go_loopw [5] (fun i wr => ∃ k : Nat, i = .int .i64 k ∧ k ≤ h.ats.length ∧ wr.cell? ⟨w.heap.size, 2, none⟩ = some (.slice aa h.ats.length ca) ∧ wr.cell? ⟨w.heap.size + 1, 2, none⟩ = some (.slice ab h.ats.length cb) ∧ w.heap.size + 1 < wr.heap.size ∧ Below w.heap.size w wr) (fun i _ => h.ats.length - (intOf i).toNat)
  case atStart => exact ⟨0, rfl, Nat.zero_le _, by simp [go_sem], by simp [go_sem], by simp, by ((repeat' (first | exact Below.refl _ _ | assumption | refine Below.setCell ?_ ?_ _ | refine bdrewN ?_ _ | refine Below.drew ?_ | refine Below.alloc ?_ ?_ _ | refine bbehind ?_ (by assumption) ?_)); all_goals first | (simp; done) | (simp; omega) | omega)⟩
  case round =>
    obtain ⟨k, rfl, hk, c1, c2, hsz, hbw⟩ := hrel
    have hz0 : w.heap.size < wr.heap.size := by omega
    by_cases hlt : k < h.ats.length
    · have dk : decide (k < h.ats.length) = true := by simpa using hlt
      obtain ⟨ba, oa, capa, hs, -, -, hba, hca⟩ := attrs_row HA.out (by omega)
      simp only [Value.slice.injEq] at hs
      obtain ⟨rfl, -, rfl⟩ := hs
      obtain ⟨bb, ob, capb, hs, -, -, hbb, hcb⟩ := attrs_row HB.out (by omega)
      simp only [Value.slice.injEq] at hs
      obtain ⟨rfl, -, rfl⟩ := hs
      obtain ⟨q1, q2⟩ := hca k hlt
      obtain ⟨q3, q4⟩ := hcb k hlt
      have q1 := (hbw.cell (p := ⟨ba, oa + k * 2, none⟩) hba).trans q1
      have q2 := (hbw.cell (p := ⟨ba, oa + k * 2 + 1, none⟩) hba).trans q2
      have q3 := (hbw.cell (p := ⟨bb, ob + k * 2, none⟩) hbb).trans q3
      have q4 := (hbw.cell (p := ⟨bb, ob + k * 2 + 1, none⟩) hbb).trans q4
      have k1 : ba < wr.heap.size := by omega
      have k2 : bb < wr.heap.size := by omega
      clear hca hcb
      generalize (h.ats.getD k ([], [])).1 = nm at *
      generalize (h.ats.getD k ([], [])).2 = vl at *
      go_wp2_with fail
      refine wp_region_quiet_all (fun w' => ∃ x : Lower _, w' = x.val) (by kernel_rfl) (by kernel_rfl) ⟨⟨_, (Below.refl _ _).drew⟩, rfl⟩ ?_
      repeat (go_big_quiet_step (fail))
      refine wpQuiet_nil ?_
      intro w2 hx2
      obtain ⟨x2, hx2⟩ := hx2
      have hb2 := x2.prop
      rw [← hx2] at hb2
      clear hx2 x2
      obtain ⟨hc2, hf2⟩ := bcell hb2
      have hs2 := hb2.size
      try simp at hs2
      try have hz20 : w.heap.size < w2.heap.size := by omega
      try have hz21 : w.heap.size + 1 < w2.heap.size := by omega
      try have hz22 : w.heap.size + 1 + 1 < w2.heap.size := by omega
      try have hz23 : w.heap.size + 1 + 1 + 1 < w2.heap.size := by omega
      try have hz24 : w.heap.size + 1 + 1 + 1 + 1 < w2.heap.size := by omega
      try have hz25 : w.heap.size + 1 + 1 + 1 + 1 + 1 < w2.heap.size := by omega
      try have hy1_2 : w1.heap.size < w2.heap.size := by omega
      go_wp2_with fail
      go_roundw
      case rel => exact ⟨k + 1, by go_num, by omega, by rw [hc2 _ _ hz0]; exact c1, by rw [hc2 _ _ hsz]; exact c2, by omega, hbw.trans (hb2.mono hbw.size)⟩
      case measure => simp [intOf]; omega
    · have dk : decide (k < h.ats.length) = false := by simpa using hlt
      go_wp2_with fail
      go_ret
      exact ⟨rfl, hbw⟩

set_option maxRecDepth 100000 in
set_option maxHeartbeats 2000000 in
theorem same_of (f : Fo) (v u : Value) (w : World) (hl : Lies w v f) (hg : Lies w u f)
    (HK : ∀ k h ks, k < f.len → f.drop k = .cons h ks (f.drop (k + 1)) → ∀ v u w, Lies w v ks → Lies w u ks → Calls Tryz.prog 35 #[v, u] w fun e w' => e = .returned (.bool true) ∧ Below w.heap.size w w') :
    Calls Tryz.prog 35 #[v, u] w fun e w' => e = .returned (.bool true) ∧ Below w.heap.size w w' := by
  have HL := Lib.hid hl
  have HG := Lib.hid hg
  have HKK := Lib.hid HK
  have hfl := lies_len hl
  obtain ⟨a, cap, rfl⟩ := lies_form hl
  obtain ⟨a', cap', rfl⟩ := lies_form hg
  clear hl hg HK
  go_enter Tryz.func35, Tryz.ntmps35
  go_wp2_with fail
  go_loopw [5] (fun i wr => ∃ k : Nat, i = .int .i64 k ∧ k ≤ f.len ∧ Below w.heap.size w wr) (fun i _ => f.len - (intOf i).toNat)
  case atStart => exact ⟨0, rfl, Nat.zero_le _, Below.refl _ _⟩
  case round =>
    obtain ⟨k, rfl, hk, hbw⟩ := hrel
    have hsz := hbw.size
    by_cases hlt : k < f.len
    · have dk : decide (k < f.len) = true := by simpa using hlt
      obtain ⟨bf, of, cp, hs, -, -, hbf, hrow⟩ := lies_row HL.out (by omega)
      simp only [Value.slice.injEq] at hs
      obtain ⟨rfl, -, rfl⟩ := hs
      obtain ⟨bg, og, cp', hs, -, -, hbg, hrow'⟩ := lies_row HG.out (by omega)
      simp only [Value.slice.injEq] at hs
      obtain ⟨rfl, -, rfl⟩ := hs
      obtain ⟨hd, ks, e, ⟨qa0, qa1, ⟨va, qa2, ha⟩, qa3, qa4, qa5⟩, vk, qa6, hlk⟩ := row_get hrow hlt
      obtain ⟨hd', ks', e', ⟨qb0, qb1, ⟨vb, qb2, hb⟩, qb3, qb4, qb5⟩, vl, qb6, hlk'⟩ := row_get hrow' hlt
      rw [e] at e'
      cases e'
      obtain ⟨aa, ca, rfl⟩ := attrs_form ha
      obtain ⟨ab, cb, rfl⟩ := attrs_form hb
      obtain ⟨ak, ck, rfl⟩ := lies_form hlk
      obtain ⟨al, cl, rfl⟩ := lies_form hlk'
      have ra0 := (hbw.cell (p := ⟨bf, of + k * 7, none⟩) hbf).trans qa0
      have ra1 := (hbw.cell (p := ⟨bf, of + k * 7 + 1, none⟩) hbf).trans qa1
      have ra2 := (hbw.cell (p := ⟨bf, of + k * 7 + 2, none⟩) hbf).trans qa2
      have ra3 := (hbw.cell (p := ⟨bf, of + k * 7 + 3, none⟩) hbf).trans qa3
      have ra4 := (hbw.cell (p := ⟨bf, of + k * 7 + 4, none⟩) hbf).trans qa4
      have ra5 := (hbw.cell (p := ⟨bf, of + k * 7 + 5, none⟩) hbf).trans qa5
      have ra6 := (hbw.cell (p := ⟨bf, of + k * 7 + 6, none⟩) hbf).trans qa6
      have rb0 := (hbw.cell (p := ⟨bg, og + k * 7, none⟩) hbg).trans qb0
      have rb1 := (hbw.cell (p := ⟨bg, og + k * 7 + 1, none⟩) hbg).trans qb1
      have rb2 := (hbw.cell (p := ⟨bg, og + k * 7 + 2, none⟩) hbg).trans qb2
      have rb3 := (hbw.cell (p := ⟨bg, og + k * 7 + 3, none⟩) hbg).trans qb3
      have rb4 := (hbw.cell (p := ⟨bg, og + k * 7 + 4, none⟩) hbg).trans qb4
      have rb5 := (hbw.cell (p := ⟨bg, og + k * 7 + 5, none⟩) hbg).trans qb5
      have rb6 := (hbw.cell (p := ⟨bg, og + k * 7 + 6, none⟩) hbg).trans qb6
      have k1 : bf < wr.heap.size := by omega
      have k2 : bg < wr.heap.size := by omega
      have SH := Lib.hid (fun (x : Lower wr) => calls_lower x (sameHead_refl hd aa ca ab cb x.val (attrs_below (attrs_below ha hbw) x.prop) (attrs_below (attrs_below hb hbw) x.prop)))
      have SK := Lib.hid (fun (x : Lower wr) => calls_lower x (HKK.out k hd ks hlt e _ _ x.val (lies_below (lies_below hlk hbw) x.prop) (lies_below (lies_below hlk' hbw) x.prop)))
      unfold hdVal at SH
      clear e hrow hrow' ha hb hlk hlk' qa0 qa1 qa2 qa3 qa4 qa5 qa6 qb0 qb1 qb2 qb3 qb4 qb5 qb6
      go_wp2_with fail
      refine wp_region_quiet_all (fun w' => ∃ x : Lower _, w' = x.val) (by kernel_rfl) (by kernel_rfl) ⟨⟨_, (Below.refl _ _).drew⟩, rfl⟩ ?_
      repeat (go_big_quiet_step (first | (go_at_call 63; exact SH.out _) | (go_at_call 35; exact SK.out _)))
      refine wpQuiet_nil ?_
      intro w2 hx2
      obtain ⟨x2, hx2⟩ := hx2
      have hb2 := x2.prop
      rw [← hx2] at hb2
      clear hx2 x2
      obtain ⟨hc2, hf2⟩ := bcell hb2
      have hs2 := hb2.size
      try simp at hs2
      try have hz20 : w.heap.size < w2.heap.size := by omega
      try have hz21 : w.heap.size + 1 < w2.heap.size := by omega
      try have hz22 : w.heap.size + 1 + 1 < w2.heap.size := by omega
      try have hz23 : w.heap.size + 1 + 1 + 1 < w2.heap.size := by omega
      try have hz24 : w.heap.size + 1 + 1 + 1 + 1 < w2.heap.size := by omega
      try have hz25 : w.heap.size + 1 + 1 + 1 + 1 + 1 < w2.heap.size := by omega
      try have hy1_2 : w1.heap.size < w2.heap.size := by omega
      go_wp2_with fail
      go_roundw
      case rel => exact ⟨k + 1, by go_num, by omega, hbw.trans (hb2.mono hbw.size)⟩
      case measure => simp [intOf]; omega
    · have dk : decide (k < f.len) = false := by simpa using hlt
      go_wp2_with fail
      go_ret
      exact ⟨rfl, hbw⟩
theorem same_refl : ∀ (N : Nat) (f : Fo), f.size ≤ N → ∀ (v u : Value) (w : World), Lies w v f → Lies w u f → Calls Tryz.prog 35 #[v, u] w fun e w' => e = .returned (.bool true) ∧ Below w.heap.size w w' := by
  intro N
  induction N with
  | zero =>
    intro f hf v u w hl hg
    exact same_of f v u w hl hg (fun k h ks hk => by have := Fo.len_le_size f; omega)
  | succ N ih =>
    intro f hf v u w hl hg
    refine same_of f v u w hl hg (fun k h ks hk e v u w hl hg => ih ks ?_ v u w hl hg)
    have := Fo.size_app (f.take k) (f.drop k)
    rw [Fo.take_app_drop, e] at this
    simp only [Fo.size] at this
    omega
end Go.Proofs.YtcgedpfolloinaaGreat

namespace Go.Proofs.YtcgedpfolloinaaGreat
open Go.RowKit

theorem ints_three {W : World} {b : Nat} {T : TypeId} {x y z : Int} (h : W.heap[b]? = some (.cells #[.int .i64 x, .int .i64 y, .int .i64 z] T (0, 0))) (hb : b < W.heap.size) : IntsLie W (.slice (some ⟨b, 0, none⟩) 3 3) [x, y, z] := by
  refine .inr ⟨b, 0, 3, rfl, by simp, hb, fun k hk => ?_⟩
  match k, hk with
  | 0, _ => exact cell_of_block h rfl
  | 1, _ => exact cell_of_block h rfl
  | 2, _ => exact cell_of_block h rfl
theorem ex_small : Small exF := readP_small (l := exText) (by decide) read_ex
theorem ex_size : sizeT exF = (7, 0) := by decide +kernel
theorem ex_at : atErr exF [0, 1, 1] = 0 := by decide +kernel
theorem ex_place : placeF exF [0, 1, 1] = some (numHd (-2) 1, .nil) := by kernel_rfl
theorem ex_print : printF exF = (exText, 0) := by decide +kernel
theorem ex_next : nextF exF [0, 1, 1] = ([0, 2], true, 0) := by decide +kernel
theorem ex_alike : alikeB [0, 2] [0, 2] = true := by decide

set_option maxRecDepth 100000 in
set_option maxHeartbeats 8000000 in
theorem grown_any (w : World) : Calls Tryz.prog 16 #[] w fun e w' => e = .returned (.bool true) ∧ Below w.heap.size w w' := by
  have EX := Lib.hid (fun w => example_any w)
  have SZ := Lib.hid (fun v W (h : Lies W v exF) => tsize_any exF v W h ex_small)
  have AT := Lib.hid (fun v u W (h : Lies W v exF) (hp : IntsLie W u [0, 1, 1]) => at_any exF [0, 1, 1] v u W h ex_small hp (by decide))
  have PR := Lib.hid (fun v W (h : Lies W v exF) => print_tree exF v W h ex_small)
  have NX := Lib.hid (fun v u W (h : Lies W v exF) (hp : IntsLie W u [0, 1, 1]) => next_any exF [0, 1, 1] v u W h ex_small hp (by decide))
  have PA := Lib.hid (fun W => tparse_any exText W (by decide))
  have AL := Lib.hid (fun v u W (h1 : IntsLie W v [0, 2]) (h2 : IntsLie W u [0, 2]) => alike_any v u [0, 2] [0, 2] W h1 h2 (by decide) (by decide))
  have SR := Lib.hid (fun v u W (h1 : Lies W v exF) (h2 : Lies W u exF) => same_refl 100000 exF ex_small.size v u W h1 h2)
  rw [ex_size] at SZ
  rw [ex_print] at PR
  rw [ex_next] at NX
  rw [ex_alike] at AL
  simp only [parsed_ex] at PA
  have exT : exText = [100, 111, 99, 40, 108, 97, 110, 103, 61, 34, 101, 110, 34, 41, 123, 34, 104, 105, 34, 32, 98, 123, 51, 47, 52, 32, 45, 50, 125, 32, 98, 125, 32, 55] := rfl
  go_enter Tryz.func16, Tryz.ntmps16
  go_wp2_with fail
  refine (EX.out _).mono ?_
  rintro e w1 ⟨a, rfl, hl1, hb1⟩
  have B1 := Lib.hid hb1
  have L1 := Lib.hid hl1
  have hs1 := hb1.size
  clear hb1 hl1
  go_wp2_with fail
  refine (SZ.out _ _ L1.out).mono ?_
  rintro e w2 ⟨rfl, hb2⟩
  have L2 := Lib.hid (lies_below L1.out hb2)
  have B2 := Lib.hid (B1.out.trans (hb2.mono hs1))
  clear hb2
  go_wp2_with fail
  have I3 : IntsLie (w2.alloc (.cells #[.int .i64 0, .int .i64 1, .int .i64 1] 3)) (.slice (some ⟨w2.heap.size, 0, none⟩) 3 3) [0, 1, 1] := ints_three (World.alloc_heap_new _ _) (by simp)
  have L2' := lies_below L2.out ((Below.refl _ w2).alloc (Nat.le_refl _) (.cells #[.int .i64 0, .int .i64 1, .int .i64 1] 3))
  have B2' : Below w.heap.size w (w2.alloc (.cells #[.int .i64 0, .int .i64 1, .int .i64 1] 3)) := B2.out.alloc B2.out.size _
  generalize w2.alloc (.cells #[.int .i64 0, .int .i64 1, .int .i64 1] 3) = W3 at *
  generalize (Value.slice (some ⟨w2.heap.size, 0, none⟩) 3 3) = u3 at *
  refine (AT.out _ _ _ L2' I3).mono ?_
  rintro e w3 ⟨h, ks, aa, ca, ak, ck, rfl, _, _, hor, hb3⟩
  rw [ex_at, ex_place] at hor
  obtain ⟨rfl, rfl⟩ : h = numHd (-2) 1 ∧ ks = .nil := by
    rcases hor with ⟨_, h1⟩ | ⟨h1, _⟩
    · have := Prod.mk.inj (Option.some.inj h1); exact ⟨this.1.symm, this.2.symm⟩
    · exact absurd rfl h1
  have L3 := Lib.hid (lies_below L2' hb3)
  have B3 := Lib.hid (B2'.trans (hb3.mono B2'.size))
  rw [ex_at]
  clear hor hb3 L2' I3 B2' L2 B2
  unfold aggOf numHd
  go_wp2_with fail
  generalize hW4 : w3.alloc _ = W4
  have K4 := Lib.hid (show W4.heap[w3.heap.size]? = some (.cells #[.int .i64 1, .string ⟨#[]⟩, .slice aa 0 ca, .int .i64 (-2), .int .i64 1, .string ⟨#[]⟩, .slice ak 0 ck] 43 (0, 0)) by rw [← hW4]; exact World.alloc_heap_new _ _)
  have hb4 : Below w3.heap.size w3 W4 := by rw [← hW4]; exact (Below.refl _ w3).alloc (Nat.le_refl _) _
  have L4 := Lib.hid (lies_below L3.out hb4)
  have B4 := Lib.hid (B3.out.trans (hb4.mono B3.out.size))
  generalize w3.heap.size = T4 at *
  clear hb4 hW4
  refine (PR.out _ _ L4.out).mono ?_
  rintro e w5 ⟨rfl, hb5⟩
  have h4 := (Array.getElem?_eq_some_iff.1 K4.out).1
  have K5 := Lib.hid ((hb5.block _ h4).trans K4.out)
  have L5 := Lib.hid (lies_below L4.out hb5)
  have B5 := Lib.hid (B4.out.trans (hb5.mono B4.out.size))
  have hs5 := hb5.size
  clear hb5 K4 L4 B4
  go_wp2_with fail
  have I6 : IntsLie (w5.alloc (.cells #[.int .i64 0, .int .i64 1, .int .i64 1] 3)) (.slice (some ⟨w5.heap.size, 0, none⟩) 3 3) [0, 1, 1] := ints_three (World.alloc_heap_new _ _) (by simp)
  have hb6 : Below w5.heap.size w5 (w5.alloc (.cells #[.int .i64 0, .int .i64 1, .int .i64 1] 3)) := (Below.refl _ w5).alloc (Nat.le_refl _) _
  have L6 := lies_below L5.out hb6
  have B6 := B5.out.trans (hb6.mono B5.out.size)
  have K6 := (hb6.block T4 (by omega)).trans K5.out
  have hs6 := hb6.size
  generalize w5.alloc (.cells #[.int .i64 0, .int .i64 1, .int .i64 1] 3) = W6 at *
  generalize (Value.slice (some ⟨w5.heap.size, 0, none⟩) 3 3) = u6 at *
  refine (NX.out _ _ _ L6 I6).mono ?_
  rintro e w7 ⟨a7, c7, rfl, hi7, hb7⟩
  have I7 := Lib.hid hi7
  have K7 := Lib.hid ((hb7.block T4 (by omega)).trans K6)
  have L7 := Lib.hid (lies_below L6 hb7)
  have B7 := Lib.hid (B6.trans (hb7.mono B6.size))
  have hs7 := hb7.size
  clear hb7 hb6 K6 L6 B6 I6 hi7
  simp only
  go_wp2_with fail
  refine (PA.out _).mono ?_
  rintro e w8 ⟨v8, rfl, hv8, hb8⟩
  obtain ⟨a8, c8, rfl⟩ := liesF_form hv8
  have I8 := Lib.hid (intsF_keeps I7.out (Keeps.of_below hb8))
  have V8 := Lib.hid (liesF_lies hv8)
  have K8 := (hb8.block T4 (by omega)).trans K7.out
  have L8 := Lib.hid (lies_below L7.out hb8)
  have B8 := Lib.hid (B7.out.trans (hb8.mono B7.out.size))
  have hs8 := hb8.size
  have c3 : w8.cell? ⟨T4, 3, none⟩ = some (.int .i64 (-2)) := cell_of_block K8 rfl
  have c4 : w8.cell? ⟨T4, 4, none⟩ = some (.int .i64 1) := cell_of_block K8 rfl
  clear hb8 hv8 K8 I7 L7 K7 B7
  go_wp2_with fail
  have I9 : IntsLie (w8.alloc (.cells #[.int .i64 0, .int .i64 2] 3)) (.slice (some ⟨w8.heap.size, 0, none⟩) 2 2) [0, 2] := ints_pair (World.alloc_heap_new _ _) (by simp)
  have hb9 : Below w8.heap.size w8 (w8.alloc (.cells #[.int .i64 0, .int .i64 2] 3)) := (Below.refl _ w8).alloc (Nat.le_refl _) _
  have J9 := ints_below (intsF_lies I8.out) hb9
  have L9 := lies_below L8.out hb9
  have V9 := lies_below V8.out hb9
  have B9 := B8.out.trans (hb9.mono B8.out.size)
  generalize w8.alloc (.cells #[.int .i64 0, .int .i64 2] 3) = W9 at *
  generalize (Value.slice (some ⟨w8.heap.size, 0, none⟩) 2 2) = u9 at *
  refine (AL.out _ _ _ J9 I9).mono ?_
  rintro e w10 ⟨rfl, hb10⟩
  have L10 := Lib.hid (lies_below L9 hb10)
  have V10 := Lib.hid (lies_below V9 hb10)
  have B10 := Lib.hid (B9.trans (hb10.mono B9.size))
  clear hb10 hb9 J9 I9 L9 V9 B9
  go_wp2_with fail
  refine (SR.out _ _ _ L10.out V10.out).mono ?_
  rintro e w11 ⟨rfl, hb11⟩
  have B11 := Lib.hid (B10.out.trans (hb11.mono B10.out.size))
  clear hb11
  go_wp2_with fail
  go_ret
  exact ⟨rfl, B11.out⟩
end Go.Proofs.YtcgedpfolloinaaGreat

namespace Go.Proofs.YtcgedpfolloinaaGreat
open Go.RowKit

def digI (l : List UInt8) : Int := l.foldl (fun a c => (a * 1009 + (c.toNat : Int) + 1) % 999983) 0
theorem digI_snoc (l : List UInt8) (c : UInt8) : digI (l ++ [c]) = (digI l * 1009 + (c.toNat : Int) + 1) % 999983 := by simp [digI, List.foldl_append]
theorem dig_bound : ∀ (l : List UInt8) (a : Int), 0 ≤ a ∧ a < 999983 → 0 ≤ l.foldl (fun a c => (a * 1009 + (c.toNat : Int) + 1) % 999983) a ∧ l.foldl (fun a c => (a * 1009 + (c.toNat : Int) + 1) % 999983) a < 999983
  | [], a, h => h
  | c :: t, a, h => by
    rw [List.foldl_cons]
    exact dig_bound t _ (by omega)
theorem digI_bound (l : List UInt8) : 0 ≤ digI l ∧ digI l < 999983 := dig_bound l 0 (by omega)
theorem digI_take {l : List UInt8} {k : Nat} (h : k < l.length) : digI (l.take (k + 1)) = (digI (l.take k) * 1009 + (l[k].toNat : Int) + 1) % 999983 := by
  rw [List.take_succ_eq_append_getElem h, digI_snoc]
def digF (f : Fo) : Int × Int := if foErr f = 0 then (digI (foQ true f), 0) else (0, foErr f)

set_option maxRecDepth 100000 in
set_option maxHeartbeats 2000000 in
theorem tdigest_any (f : Fo) (v : Value) (w : World) (hl : Lies w v f) (hs : Small f) :
    Calls Tryz.prog 25 #[v] w fun e w' => e = .returned (.tuple #[.int .i64 (digF f).1, .int .i64 (digF f).2]) ∧ Below w.heap.size w w' := by
  have CH := Lib.hid (tcheck_any f v w hl hs)
  have HV := Lib.hid (fun h => valid_ok (f := f) h)
  have WR := Lib.hid (fun w1 (hw : Below w.heap.size w w1) (ha : foAsc f ∧ (foQ true f).length ≤ 48000) => written_any f v w1 (lies_below hl hw) ha.1 (by omega))
  obtain ⟨a, cap, rfl⟩ := lies_form hl
  have HP := Lib.hid (show digF f = if foErr f = 0 then (digI (foQ true f), 0) else (0, foErr f) from rfl)
  clear hl hs
  generalize foErr f = er at *
  by_cases he : er = 0
  · have b0 : (er != 0) = false := by simpa using he
    have HA2 := Lib.hid (HV.out he)
    have HQ := Lib.hid (HP.out.trans (if_pos he))
    clear he
    generalize foQ true f = q at *
    have hql := HA2.out.2
    go_enter Tryz.func25, Tryz.ntmps25
    go_wp2_with fail
    refine CH.out.mono ?_
    rintro e w1 ⟨rfl, hb1⟩
    go_wp2_with fail
    refine (WR.out w1 hb1 HA2.out).mono ?_
    rintro e w2 ⟨rfl, hb2⟩
    have hB := hb1.trans (hb2.mono hb1.size)
    obtain ⟨cap2, w3, hcv, hb3, hz3, hcell⟩ := conv_bytes q w2
    have HC := Lib.hid hcell; clear hcell
    have HB := Lib.hid (hB.trans (hb3.mono hB.size)); clear hB hb3 hb2 hb1
    go_wp2_with fail
    go_loopw [5, 17] (fun d i wr => ∃ k : Nat, k ≤ q.length ∧ i = .int .i64 k ∧ d = .int .i64 (digI (q.take k)) ∧ wr = w3) (fun _ i _ => q.length - (intOf i).toNat)
    case atStart => exact ⟨0, Nat.zero_le _, rfl, rfl, rfl⟩
    case round =>
      obtain ⟨k, hk, rfl, rfl, rfl⟩ := hrel
      by_cases hlt : k < q.length
      · have dk : decide (k < q.length) = true := by simpa using hlt
        have hce := HC.out k hlt
        have HT := Lib.hid (digI_take hlt)
        have hbd := digI_bound (q.take k)
        obtain ⟨c, hc⟩ : ∃ c, q[k] = c := ⟨_, rfl⟩
        rw [hc] at hce HT
        clear hc
        have hc256 : c.toNat < 256 := c.toNat_lt
        generalize digI (q.take k) = d at *
        have hwr1 : IntKind.i64.wrap (d * 1009) = d * 1009 := by rw [IntKind.wrap_i64]; omega
        have hwr2 : IntKind.i64.wrap (d * 1009 + (c.toNat : Int)) = d * 1009 + c.toNat := by rw [IntKind.wrap_i64]; omega
        have hwr3 : IntKind.i64.wrap (d * 1009 + (c.toNat : Int) + 1) = d * 1009 + c.toNat + 1 := by rw [IntKind.wrap_i64]; omega
        have hwr5 : IntKind.i64.wrap (c.toNat : Int) = c.toNat := by rw [IntKind.wrap_i64]; omega
        go_wp2_with fail
        go_roundw
        case rel => exact ⟨k + 1, by omega, by go_num, by rw [HT.out], trivial⟩
        case measure => simp [intOf]; omega
      · have dk : decide (k < q.length) = false := by simpa using hlt
        obtain rfl : k = q.length := by omega
        go_wp2_with fail
        go_ret2
        rw [HQ.out, List.take_length]
        exact ⟨rfl, HB.out⟩
  · have b0 : (er != 0) = true := by simpa using he
    have HQ := Lib.hid (HP.out.trans (if_neg (by simpa using he)))
    clear he
    go_enter Tryz.func25, Tryz.ntmps25
    go_wp2_with fail
    refine CH.out.mono ?_
    rintro e w1 ⟨rfl, hb1⟩
    go_wp2_with fail
    go_ret2
    rw [HQ.out]
    exact ⟨rfl, hb1⟩
end Go.Proofs.YtcgedpfolloinaaGreat

namespace Go.Proofs.YtcgedpfolloinaaGreat
open Go.RowKit

set_option maxRecDepth 100000 in
set_option maxHeartbeats 1000000 in
theorem qsize_any (f : Fo) (v : Value) (w : World) (hl : Lies w v f) (hs : Small f) :
    Calls Tryz.prog 22 #[v] w fun e W' => e = .returned (.tuple #[.int .i64 (sizeT f).1, .int .i64 (sizeT f).2]) ∧ Below w.heap.size w W' := by
  have hsz := hs.size
  have hdp := hs.deep
  have C := Lib.hid (qcheck_any f v w hl hs)
  have M := Lib.hid (fun w1 (hw : Below w.heap.size w w1) => sizeOf_any _ f v w1 (Nat.le_refl _) (lies_below hl hw))
  have HV := Lib.hid (show wrap64 (f.size : Int) = (f.size : Int) from wrap64_id (by omega) (by omega))
  obtain ⟨a, cap, rfl⟩ := lies_form hl
  clear hl hs
  by_cases h0 : foErr f = 0
  · have HS := Lib.hid (show sizeT f = ((f.size : Int), 0) from if_pos h0)
    rw [h0] at C
    clear h0
    rw [HS.out]
    go_enter Tryz.func22, Tryz.ntmps22
    go_wp2_with fail
    refine (C.out).mono ?_; rintro e w1 ⟨rfl, hb1⟩; obtain ⟨hc1, hf1⟩ := bcell hb1; have hs1 := hb1.size; (try simp at hs1); (try have hz10 : w.heap.size < w1.heap.size := by omega); (try have hz11 : w.heap.size + 1 < w1.heap.size := by omega); (try have hz12 : w.heap.size + 1 + 1 < w1.heap.size := by omega); (try have hz13 : w.heap.size + 1 + 1 + 1 < w1.heap.size := by omega); (try have hz14 : w.heap.size + 1 + 1 + 1 + 1 < w1.heap.size := by omega); (try have hz15 : w.heap.size + 1 + 1 + 1 + 1 + 1 < w1.heap.size := by omega)
    go_wp2_with fail
    refine (M.out _ hb1).mono ?_; rintro e w2 ⟨rfl, rfl⟩
    rw [HV.out]
    go_wp2_with fail
    go_ret2
    exact ⟨rfl, by ((repeat' (first | exact Below.refl _ _ | assumption | refine Below.setCell ?_ ?_ _ | refine bdrewN ?_ _ | refine Below.drew ?_ | refine Below.alloc ?_ ?_ _ | refine bbehind ?_ (by assumption) ?_)); all_goals first | (simp; done) | (simp; omega) | omega)⟩
  · have HS := Lib.hid (show sizeT f = (0, foErr f) from if_neg h0)
    rw [HS.out]
    generalize foErr f = e0 at *
    have b0 : (e0 != 0) = true := by simpa using h0
    clear h0
    go_enter Tryz.func22, Tryz.ntmps22
    go_wp2_with fail
    refine (C.out).mono ?_; rintro e w1 ⟨rfl, hb1⟩; obtain ⟨hc1, hf1⟩ := bcell hb1; have hs1 := hb1.size; (try simp at hs1); (try have hz10 : w.heap.size < w1.heap.size := by omega); (try have hz11 : w.heap.size + 1 < w1.heap.size := by omega); (try have hz12 : w.heap.size + 1 + 1 < w1.heap.size := by omega); (try have hz13 : w.heap.size + 1 + 1 + 1 < w1.heap.size := by omega); (try have hz14 : w.heap.size + 1 + 1 + 1 + 1 < w1.heap.size := by omega); (try have hz15 : w.heap.size + 1 + 1 + 1 + 1 + 1 < w1.heap.size := by omega)
    go_wp2_with fail
    go_ret2
    exact ⟨rfl, by ((repeat' (first | exact Below.refl _ _ | assumption | refine Below.setCell ?_ ?_ _ | refine bdrewN ?_ _ | refine Below.drew ?_ | refine Below.alloc ?_ ?_ _ | refine bbehind ?_ (by assumption) ?_)); all_goals first | (simp; done) | (simp; omega) | omega)⟩

set_option maxRecDepth 100000 in
set_option maxHeartbeats 1000000 in
theorem qdeep_any (f : Fo) (v : Value) (w : World) (hl : Lies w v f) (hs : Small f) :
    Calls Tryz.prog 24 #[v] w fun e W' => e = .returned (.tuple #[.int .i64 (deepT f).1, .int .i64 (deepT f).2]) ∧ Below w.heap.size w W' := by
  have hsz := hs.size
  have hdp := hs.deep
  have C := Lib.hid (qcheck_any f v w hl hs)
  have M := Lib.hid (fun w1 (hw : Below w.heap.size w w1) => deepOf_any _ f v w1 (Nat.le_refl _) (lies_below hl hw))
  have HV := Lib.hid (show deepL 0 f = (f.deep : Int) from hs.dl)
  obtain ⟨a, cap, rfl⟩ := lies_form hl
  clear hl hs
  by_cases h0 : foErr f = 0
  · have HS := Lib.hid (show deepT f = ((f.deep : Int), 0) from if_pos h0)
    rw [h0] at C
    clear h0
    rw [HS.out]
    go_enter Tryz.func24, Tryz.ntmps24
    go_wp2_with fail
    refine (C.out).mono ?_; rintro e w1 ⟨rfl, hb1⟩; obtain ⟨hc1, hf1⟩ := bcell hb1; have hs1 := hb1.size; (try simp at hs1); (try have hz10 : w.heap.size < w1.heap.size := by omega); (try have hz11 : w.heap.size + 1 < w1.heap.size := by omega); (try have hz12 : w.heap.size + 1 + 1 < w1.heap.size := by omega); (try have hz13 : w.heap.size + 1 + 1 + 1 < w1.heap.size := by omega); (try have hz14 : w.heap.size + 1 + 1 + 1 + 1 < w1.heap.size := by omega); (try have hz15 : w.heap.size + 1 + 1 + 1 + 1 + 1 < w1.heap.size := by omega)
    go_wp2_with fail
    refine (M.out _ hb1).mono ?_; rintro e w2 ⟨rfl, rfl⟩
    rw [HV.out]
    go_wp2_with fail
    go_ret2
    exact ⟨rfl, by ((repeat' (first | exact Below.refl _ _ | assumption | refine Below.setCell ?_ ?_ _ | refine bdrewN ?_ _ | refine Below.drew ?_ | refine Below.alloc ?_ ?_ _ | refine bbehind ?_ (by assumption) ?_)); all_goals first | (simp; done) | (simp; omega) | omega)⟩
  · have HS := Lib.hid (show deepT f = (0, foErr f) from if_neg h0)
    rw [HS.out]
    generalize foErr f = e0 at *
    have b0 : (e0 != 0) = true := by simpa using h0
    clear h0
    go_enter Tryz.func24, Tryz.ntmps24
    go_wp2_with fail
    refine (C.out).mono ?_; rintro e w1 ⟨rfl, hb1⟩; obtain ⟨hc1, hf1⟩ := bcell hb1; have hs1 := hb1.size; (try simp at hs1); (try have hz10 : w.heap.size < w1.heap.size := by omega); (try have hz11 : w.heap.size + 1 < w1.heap.size := by omega); (try have hz12 : w.heap.size + 1 + 1 < w1.heap.size := by omega); (try have hz13 : w.heap.size + 1 + 1 + 1 < w1.heap.size := by omega); (try have hz14 : w.heap.size + 1 + 1 + 1 + 1 < w1.heap.size := by omega); (try have hz15 : w.heap.size + 1 + 1 + 1 + 1 + 1 < w1.heap.size := by omega)
    go_wp2_with fail
    go_ret2
    exact ⟨rfl, by ((repeat' (first | exact Below.refl _ _ | assumption | refine Below.setCell ?_ ?_ _ | refine bdrewN ?_ _ | refine Below.drew ?_ | refine Below.alloc ?_ ?_ _ | refine bbehind ?_ (by assumption) ?_)); all_goals first | (simp; done) | (simp; omega) | omega)⟩

set_option maxRecDepth 100000 in
set_option maxHeartbeats 2000000 in
theorem digestOf_any (q : List UInt8) (w : World) (hql : q.length ≤ 48000) :
    Calls Tryz.prog 83 #[.string ⟨q.toArray⟩] w fun e w' => e = .returned (.int .i64 (digI q)) ∧ Below w.heap.size w w' := by
  go_enter Tryz.func83, Tryz.ntmps83
  go_wp2_with fail
  go_loopw [3, 4] (fun d i wr => ∃ k : Nat, k ≤ q.length ∧ i = .int .i64 k ∧ d = .int .i64 (digI (q.take k)) ∧ Below w.heap.size w wr) (fun _ i _ => q.length - (intOf i).toNat)
  case atStart => exact ⟨0, Nat.zero_le _, rfl, rfl, Below.refl _ _⟩
  case round =>
    obtain ⟨k, hk, rfl, rfl, hbw⟩ := hrel
    by_cases hlt : k < q.length
    · have dk : decide (k < q.length) = true := by simpa using hlt
      have HT := Lib.hid (digI_take hlt)
      have hbd := digI_bound (q.take k)
      obtain ⟨c, hc⟩ : ∃ c, q[k] = c := ⟨_, rfl⟩
      have hcx := hc
      rw [hc] at HT
      have hc256 : c.toNat < 256 := c.toNat_lt
      generalize digI (q.take k) = d at *
      have hwr1 : IntKind.i64.wrap (d * 1009) = d * 1009 := by rw [IntKind.wrap_i64]; omega
      have hwr2 : IntKind.i64.wrap (d * 1009 + (c.toNat : Int)) = d * 1009 + c.toNat := by rw [IntKind.wrap_i64]; omega
      have hwr3 : IntKind.i64.wrap (d * 1009 + (c.toNat : Int) + 1) = d * 1009 + c.toNat + 1 := by rw [IntKind.wrap_i64]; omega
      have hwr5 : IntKind.i64.wrap (c.toNat : Int) = c.toNat := by rw [IntKind.wrap_i64]; omega
      go_wp2_with fail
      go_roundw
      case rel => exact ⟨k + 1, by omega, by go_num, by rw [HT.out], hbw⟩
      case measure => simp [intOf]; omega
    · have dk : decide (k < q.length) = false := by simpa using hlt
      obtain rfl : k = q.length := by omega
      go_wp2_with fail
      go_ret
      rw [List.take_length]
      exact ⟨rfl, hbw⟩
end Go.Proofs.YtcgedpfolloinaaGreat

namespace Go.Proofs.YtcgedpfolloinaaGreat
open Go.RowKit Go.BigFrame

/-- a whole number's text. -/
def tellS (n : Int) : List UInt8 := signText n (digs n.natAbs)

theorem tell_neg1 {n : Int} (h : n < 0) (k : -10 < n) : tellS n = 45 :: tellS (-n) := by
  unfold tellS signText
  rw [if_pos h, if_neg (by omega), Int.natAbs_neg]
theorem tdiv_abs (n : Int) : (n.tdiv 10).natAbs = n.natAbs / 10 := by rw [Int.natAbs_tdiv]; rfl
theorem tmod_abs (n : Int) : (n.tmod 10).natAbs = n.natAbs % 10 := by rw [Int.natAbs_tmod]; rfl
theorem tdiv_neg' {n : Int} (h : n ≤ 0) : n.tdiv 10 ≤ 0 := by
  have : (-n).tdiv 10 = -(n.tdiv 10) := Int.neg_tdiv ..
  have := Int.tdiv_nonneg (a := -n) (b := 10) (by omega) (by omega)
  omega
theorem tmod_neg' {n : Int} (h : n ≤ 0) : n.tmod 10 ≤ 0 := by
  have : (-n).tmod 10 = -(n.tmod 10) := Int.neg_tmod ..
  have := Int.tmod_nonneg (a := -n) 10 (by omega)
  omega
theorem tell_neg {n : Int} (h : n ≤ -10) : tellS n = tellS (n.tdiv 10) ++ tellS (-(n.tmod 10)) := by
  have h1 := tdiv_abs n
  have h2 := tmod_abs n
  have h3 := tdiv_neg' (n := n) (by omega)
  have h4 := tmod_neg' (n := n) (by omega)
  unfold tellS signText
  rw [if_pos (by omega), if_pos (by omega), if_neg (by omega), Int.natAbs_neg, h1, h2, digs_ge (by omega)]
  show 45 :: (digs (n.natAbs / 10) ++ [dig n.natAbs]) = (45 :: digs (n.natAbs / 10)) ++ digs (n.natAbs % 10)
  rw [digs_lt (n := n.natAbs % 10) (by omega)]
  have e : dig n.natAbs = dig (n.natAbs % 10) := by unfold dig; congr 2; omega
  rw [e]; rfl
theorem tell_one {n : Int} (h : 0 ≤ n) (k : n < 10) : ∃ u : UInt8, tellS n = [u] ∧ 48 + n = (u.toNat : Int) := by
  refine ⟨dig n.natAbs, ?_, by rw [dig_nat]; omega⟩
  unfold tellS signText
  rw [if_neg (by omega), digs_lt (by omega)]
theorem tell_len {n : Int} (h1 : -1000000000000000000 ≤ n) (h2 : n ≤ 1000000000000000000) : (tellS n).length ≤ 20 := by
  have := digs_len 18 n.natAbs (by omega)
  have := signText_len n (digs n.natAbs)
  unfold tellS; omega
theorem tell_pos {n : Int} (h : 10 ≤ n) : tellS n = tellS (n / 10) ++ tellS (n % 10) := by
  unfold tellS signText
  rw [if_neg (by omega), if_neg (by omega), if_neg (by omega), digs_ge (by omega), digs_lt (n := (n % 10).natAbs) (by omega)]
  have e1 : (n / 10).natAbs = n.natAbs / 10 := by omega
  have e2 : dig n.natAbs = dig (n % 10).natAbs := by unfold dig; congr 1; omega
  rw [e1, e2]

@[go_sem] theorem str_app (a b : List UInt8) : (⟨a.toArray⟩ ++ ⟨b.toArray⟩ : ByteArray) = ⟨(a ++ b).toArray⟩ := by
  apply ByteArray.ext; rw [ByteArray.data_append]; simp
theorem ret_str {a b : List UInt8} (h : a = b) : Ending.returned (.string ⟨a.toArray⟩) = .returned (.string ⟨b.toArray⟩) := by rw [h]

set_option maxRecDepth 100000 in
set_option maxHeartbeats 1000000 in
theorem tell_any (f : Nat) : ∀ (n : Int) (w : World), 4 * (n.natAbs : Int) - n < f → -1000000000000000000 ≤ n → n ≤ 1000000000000000000 →
    Calls Tryz.prog 175 #[.int .i64 n] w fun e w' => e = .returned (.string ⟨(tellS n).toArray⟩) ∧ Below w.heap.size w w' := by
  induction f with
  | zero => intro n w h; simp at h; omega
  | succ f ih =>
    intro n w hf h1 h2
    have IH := Lib.hid ih; clear ih
    by_cases h0 : n < 0
    · by_cases h10 : -10 < n
      · have T := Lib.hid (tell_neg1 h0 h10)
        have l1 := tell_len (n := -n) (by omega) (by omega)
        go_enter Tryz.func175, Tryz.ntmps175
        go_wp2_with fail
        refine (IH.out (-n) _ (by omega) (by omega) (by omega)).mono ?_; rintro e w1 ⟨rfl, hb1⟩; obtain ⟨hc1, hf1⟩ := bcell hb1; have hs1 := hb1.size; (try simp at hs1); (try have hz10 : w.heap.size < w1.heap.size := by omega); (try have hz11 : w.heap.size + 1 < w1.heap.size := by omega); (try have hz12 : w.heap.size + 1 + 1 < w1.heap.size := by omega); (try have hz13 : w.heap.size + 1 + 1 + 1 < w1.heap.size := by omega); (try have hz14 : w.heap.size + 1 + 1 + 1 + 1 < w1.heap.size := by omega); (try have hz15 : w.heap.size + 1 + 1 + 1 + 1 + 1 < w1.heap.size := by omega)
        go_wp2
        go_ret
        exact ⟨by rw [T.out]; rfl, by ((repeat' (first | exact Below.refl _ _ | assumption | refine Below.setCell ?_ ?_ _ | refine bdrewN ?_ _ | refine Below.drew ?_ | refine Below.alloc ?_ ?_ _ | refine bbehind ?_ (by assumption) ?_)); all_goals first | (simp; done) | (simp; omega) | omega)⟩
      · have T := Lib.hid (tell_neg (n := n) (by omega))
        have q1 := tdiv_abs n
        have q2 := tmod_abs n
        have q3 := tdiv_neg' (n := n) (by omega)
        have q4 := tmod_neg' (n := n) (by omega)
        have b1 : -1000000000000000000 ≤ n.tdiv 10 := by omega
        have b2 : -10 < n.tmod 10 := by omega
        have l1 := tell_len (n := n.tdiv 10) (by omega) (by omega)
        have l2 := tell_len (n := -(n.tmod 10)) (by omega) (by omega)
        have q5 := Lib.hid q1; clear q1
        have q6 := Lib.hid q2; clear q2
        go_enter Tryz.func175, Tryz.ntmps175
        go_wp2_with fail
        refine (IH.out (n.tdiv 10) _ (by have := q5.out; omega) (by omega) (by omega)).mono ?_; rintro e w1 ⟨rfl, hb1⟩; obtain ⟨hc1, hf1⟩ := bcell hb1; have hs1 := hb1.size; (try simp at hs1); (try have hz10 : w.heap.size < w1.heap.size := by omega); (try have hz11 : w.heap.size + 1 < w1.heap.size := by omega); (try have hz12 : w.heap.size + 1 + 1 < w1.heap.size := by omega); (try have hz13 : w.heap.size + 1 + 1 + 1 < w1.heap.size := by omega); (try have hz14 : w.heap.size + 1 + 1 + 1 + 1 < w1.heap.size := by omega); (try have hz15 : w.heap.size + 1 + 1 + 1 + 1 + 1 < w1.heap.size := by omega)
        go_wp2_with fail
        refine (IH.out (-(n.tmod 10)) _ (by have := q6.out; omega) (by omega) (by omega)).mono ?_; rintro e w2 ⟨rfl, hb2⟩; obtain ⟨hc2, hf2⟩ := bcell hb2; have hs2 := hb2.size; (try simp at hs2); (try have hz20 : w.heap.size < w2.heap.size := by omega); (try have hz21 : w.heap.size + 1 < w2.heap.size := by omega); (try have hz22 : w.heap.size + 1 + 1 < w2.heap.size := by omega); (try have hz23 : w.heap.size + 1 + 1 + 1 < w2.heap.size := by omega); (try have hz24 : w.heap.size + 1 + 1 + 1 + 1 < w2.heap.size := by omega); (try have hz25 : w.heap.size + 1 + 1 + 1 + 1 + 1 < w2.heap.size := by omega); (try have hy1_2 : w1.heap.size < w2.heap.size := by omega)
        go_wp2
        go_ret
        exact ⟨by rw [T.out]; rfl, by ((repeat' (first | exact Below.refl _ _ | assumption | refine Below.setCell ?_ ?_ _ | refine bdrewN ?_ _ | refine Below.drew ?_ | refine Below.alloc ?_ ?_ _ | refine bbehind ?_ (by assumption) ?_)); all_goals first | (simp; done) | (simp; omega) | omega)⟩
    · by_cases h10 : n < 10
      · obtain ⟨u, hT, hu⟩ := tell_one (by omega) h10
        have T := Lib.hid hT; clear hT
        have hcv : (convert 92 9 (.slice (some ⟨w.heap.size, 0, none⟩) 1 1)).run Tryz.prog (w.alloc (.cells #[.int .u8 (48 + n)] 5)) = .ok (.string ⟨[u].toArray⟩) (w.alloc (.cells #[.int .u8 (48 + n)] 5)) := by
          refine run_convert_bytes_back _ _ _ 5 _ _ [u] (by kernel_rfl) (by kernel_rfl) (by kernel_rfl) fun j hj => ?_
          have : j = 0 := by simpa using hj
          subst this
          show World.cell? _ ⟨w.heap.size, 0, none⟩ = _
          rw [World.cell?_alloc_at (hn := rfl), hu]; rfl
        clear hu
        go_enter Tryz.func175, Tryz.ntmps175
        go_wp2
        go_ret
        exact ⟨by rw [T.out]; rfl, by ((repeat' (first | exact Below.refl _ _ | assumption | refine Below.setCell ?_ ?_ _ | refine bdrewN ?_ _ | refine Below.drew ?_ | refine Below.alloc ?_ ?_ _ | refine bbehind ?_ (by assumption) ?_)); all_goals first | (simp; done) | (simp; omega) | omega)⟩
      · have T := Lib.hid (tell_pos (n := n) (by omega))
        have b1 : 0 ≤ n / 10 := by omega
        have b2 : 0 ≤ n % 10 := by omega
        have b3 : n / 10 ≤ n := by omega
        have b4 : n % 10 < 10 := by omega
        have l1 := tell_len (n := n / 10) (by omega) (by omega)
        have l2 := tell_len (n := n % 10) (by omega) (by omega)
        go_enter Tryz.func175, Tryz.ntmps175
        go_wp2_with fail
        refine (IH.out (n / 10) _ (by omega) (by omega) (by omega)).mono ?_; rintro e w1 ⟨rfl, hb1⟩; obtain ⟨hc1, hf1⟩ := bcell hb1; have hs1 := hb1.size; (try simp at hs1); (try have hz10 : w.heap.size < w1.heap.size := by omega); (try have hz11 : w.heap.size + 1 < w1.heap.size := by omega); (try have hz12 : w.heap.size + 1 + 1 < w1.heap.size := by omega); (try have hz13 : w.heap.size + 1 + 1 + 1 < w1.heap.size := by omega); (try have hz14 : w.heap.size + 1 + 1 + 1 + 1 < w1.heap.size := by omega); (try have hz15 : w.heap.size + 1 + 1 + 1 + 1 + 1 < w1.heap.size := by omega)
        go_wp2_with fail
        refine (IH.out (n % 10) _ (by omega) (by omega) (by omega)).mono ?_; rintro e w2 ⟨rfl, hb2⟩; obtain ⟨hc2, hf2⟩ := bcell hb2; have hs2 := hb2.size; (try simp at hs2); (try have hz20 : w.heap.size < w2.heap.size := by omega); (try have hz21 : w.heap.size + 1 < w2.heap.size := by omega); (try have hz22 : w.heap.size + 1 + 1 < w2.heap.size := by omega); (try have hz23 : w.heap.size + 1 + 1 + 1 < w2.heap.size := by omega); (try have hz24 : w.heap.size + 1 + 1 + 1 + 1 < w2.heap.size := by omega); (try have hz25 : w.heap.size + 1 + 1 + 1 + 1 + 1 < w2.heap.size := by omega); (try have hy1_2 : w1.heap.size < w2.heap.size := by omega)
        go_wp2
        go_ret
        exact ⟨by rw [T.out]; rfl, by ((repeat' (first | exact Below.refl _ _ | assumption | refine Below.setCell ?_ ?_ _ | refine bdrewN ?_ _ | refine Below.drew ?_ | refine Below.alloc ?_ ?_ _ | refine bbehind ?_ (by assumption) ?_)); all_goals first | (simp; done) | (simp; omega) | omega)⟩
end Go.Proofs.YtcgedpfolloinaaGreat

namespace Go.Proofs.YtcgedpfolloinaaGreat
open Go.RowKit

theorem ext_one {l : List UInt8} {k : Nat} (h : k < l.length) : (⟨l.toArray⟩ : ByteArray).extract k (k + 1) = ⟨[l[k]].toArray⟩ := by
  apply ByteArray.ext
  rw [ByteArray.data_extract]
  show l.toArray.extract k (k + 1) = [l[k]].toArray
  rw [List.extract_toArray, List.extract_eq_take_drop, List.drop_eq_getElem_cons h, show k + 1 - k = 1 by omega, List.take_succ_cons, List.take_zero]

set_option maxRecDepth 100000 in
set_option maxHeartbeats 2000000 in
theorem qquoted_any (s : List UInt8) (w : World) (hl : s.length ≤ 100000) :
    Calls Tryz.prog 158 #[.string ⟨s.toArray⟩] w fun e w' => e = .returned (.string ⟨(quoQ s).toArray⟩) ∧ Below w.heap.size w w' := by
  go_enter Tryz.func158, Tryz.ntmps158
  go_wp2_with fail
  go_loopw [3, 4] (fun o i wr => ∃ k : Nat, k ≤ s.length ∧ i = .int .i64 k ∧ o = .string ⟨(34 :: escQ (s.take k)).toArray⟩ ∧ Below w.heap.size w wr) (fun _ i _ => s.length - (intOf i).toNat)
  case atStart => exact ⟨0, Nat.zero_le _, rfl, rfl, Below.refl _ _⟩
  case round =>
    obtain ⟨k, hk, rfl, rfl, hbw⟩ := hrel
    have hel := escQ_len (s.take k)
    have hel2 : (s.take k).length ≤ s.length := by simp; omega
    by_cases hlt : k < s.length
    · have dk : decide (k < s.length) = true := by simpa using hlt
      have HT := Lib.hid (escQ_take hlt)
      have HX := Lib.hid (ext_one hlt)
      obtain ⟨c, hc⟩ : ∃ c, s[k] = c := ⟨_, rfl⟩
      rw [hc] at HT HX
      have hx := HX.out
      generalize escQ (s.take k) = acc at *
      by_cases h1 : c.toNat = 34
      · have HE := Lib.hid (HT.out.trans (by rw [if_pos (.inl h1)]))
        have b1 : ((c.toNat : Int) == 34) = true := by rw [beq_iff_eq]; omega
        have b1' : (c.toNat == 34) = true := by simpa using h1
        clear h1
        go_wp2_with fail
        go_roundw
        case rel => exact ⟨k + 1, by omega, by go_num, by rw [HE.out], hbw⟩
        case measure => simp [intOf]; omega
      · have b1 : ((c.toNat : Int) == 34) = false := by rw [beq_eq_false_iff_ne]; omega
        have b1' : (c.toNat == 34) = false := by simpa using h1
        by_cases h2 : c.toNat = 92
        · have HE := Lib.hid (HT.out.trans (by rw [if_pos (.inr h2)]))
          have b2 : ((c.toNat : Int) == 92) = true := by rw [beq_iff_eq]; omega
          have b2' : (c.toNat == 92) = true := by simpa using h2
          clear h1 h2
          go_wp2_with fail
          go_roundw
          case rel => exact ⟨k + 1, by omega, by go_num, by rw [HE.out], hbw⟩
          case measure => simp [intOf]; omega
        · have HE := Lib.hid (HT.out.trans (by rw [if_neg (by omega)]))
          have b2 : ((c.toNat : Int) == 92) = false := by rw [beq_eq_false_iff_ne]; omega
          have b2' : (c.toNat == 92) = false := by simpa using h2
          clear h1 h2
          go_wp2_with fail
          go_roundw
          case rel => exact ⟨k + 1, by omega, by go_num, by rw [HE.out], hbw⟩
          case measure => simp [intOf]; omega
    · have dk : decide (k < s.length) = false := by simpa using hlt
      obtain rfl : k = s.length := by omega
      have HQ := Lib.hid (show quoQ s = 34 :: (escQ s ++ [34]) from rfl)
      rw [List.take_length] at *
      generalize escQ s = acc at *
      go_wp2_with fail
      go_ret
      exact ⟨by rw [HQ.out]; rfl, hbw⟩
end Go.Proofs.YtcgedpfolloinaaGreat

namespace Go.Proofs.YtcgedpfolloinaaGreat
open Go.RowKit Go.BigFrame

theorem told_one {n : Int} : toldS n 1 = tellS n := by
  unfold toldS tellS
  rw [if_pos rfl, numText1]
  have e : ((n.natAbs : Int)).toNat = n.natAbs := by omega
  rw [e]; simp
theorem told_two {n d : Int} (hd : ¬ d = 1) (h : 0 ≤ d) : toldS n d = tellS n ++ 47 :: tellS d := by
  unfold toldS tellS
  rw [if_neg hd, numText1, numText1]
  have e : ((n.natAbs : Int)).toNat = n.natAbs := by omega
  have e2 : d.toNat = d.natAbs := by omega
  rw [e, e2]
  unfold signText
  rw [if_neg (show ¬ d < 0 by omega)]
  split <;> simp

theorem tell_b (n : Int) (w : World) (h1 : -1000000000000000000 ≤ n) (h2 : n ≤ 1000000000000000000) :
    Calls Tryz.prog 175 #[.int .i64 n] w fun e w' => e = .returned (.string ⟨(tellS n).toArray⟩) ∧ Below w.heap.size w w' :=
  tell_any (4 * n.natAbs - n + 1).toNat n w (by omega) h1 h2

set_option maxRecDepth 100000 in
set_option maxHeartbeats 1000000 in
theorem told_any (n d : Int) (w : World) (f : Fit n d) :
    Calls Tryz.prog 157 #[.agg #[.int .i64 n, .int .i64 d]] w fun e w' => e = .returned (.string ⟨(toldS n d).toArray⟩) ∧ Below w.heap.size w w' := by
  obtain ⟨n1, n2, d1, d2⟩ := f
  have l1 := tell_len (n := n) (by omega) (by omega)
  have l2 := tell_len (n := d) (by omega) (by omega)
  by_cases hd : d = 1
  · subst hd
    rw [told_one]
    go_enter Tryz.func157, Tryz.ntmps157
    go_wp2_with fail
    refine (tell_b _ _ (by omega) (by omega)).mono ?_; rintro e w1 ⟨rfl, hb1⟩; obtain ⟨hc1, hf1⟩ := bcell hb1; have hs1 := hb1.size; (try simp at hs1); (try have hz10 : w.heap.size < w1.heap.size := by omega); (try have hz11 : w.heap.size + 1 < w1.heap.size := by omega); (try have hz12 : w.heap.size + 1 + 1 < w1.heap.size := by omega); (try have hz13 : w.heap.size + 1 + 1 + 1 < w1.heap.size := by omega); (try have hz14 : w.heap.size + 1 + 1 + 1 + 1 < w1.heap.size := by omega); (try have hz15 : w.heap.size + 1 + 1 + 1 + 1 + 1 < w1.heap.size := by omega)
    go_wp2
    go_ret
    exact ⟨rfl, by ((repeat' (first | exact Below.refl _ _ | assumption | refine Below.setCell ?_ ?_ _ | refine bdrewN ?_ _ | refine Below.drew ?_ | refine Below.alloc ?_ ?_ _ | refine bbehind ?_ (by assumption) ?_)); all_goals first | (simp; done) | (simp; omega) | omega)⟩
  · have hd' : (d == 1) = false := by simpa using hd
    rw [told_two hd (by omega)]
    clear hd
    go_enter Tryz.func157, Tryz.ntmps157
    go_wp2_with fail
    refine wp_region_quiet_all (fun w' => ∃ x : Lower _, w' = x.val) (by kernel_rfl) (by kernel_rfl) ⟨⟨_, (Below.refl _ _).drew⟩, rfl⟩ ?_
    repeat (go_big_quiet_step ((go_at_call 175; exact calls_lower _ (tell_b _ _ (by omega) (by omega)))))
    refine wpQuiet_nil ?_
    intro w1 hx1
    obtain ⟨x1, hx1⟩ := hx1
    have hb1 := x1.prop
    rw [← hx1] at hb1
    clear hx1 x1
    obtain ⟨hc1, hf1⟩ := bcell hb1
    have hs1 := hb1.size
    try simp at hs1
    try have hz0 : w.heap.size < w1.heap.size := by omega
    try have hz1 : w.heap.size + 1 < w1.heap.size := by omega
    try have hz2 : w.heap.size + 1 + 1 < w1.heap.size := by omega
    try have hz3 : w.heap.size + 1 + 1 + 1 < w1.heap.size := by omega
    try have hz4 : w.heap.size + 1 + 1 + 1 + 1 < w1.heap.size := by omega
    try have hz5 : w.heap.size + 1 + 1 + 1 + 1 + 1 < w1.heap.size := by omega
    go_wp2
    go_ret
    exact ⟨rfl, by ((repeat' (first | exact Below.refl _ _ | assumption | refine Below.setCell ?_ ?_ _ | refine bdrewN ?_ _ | refine Below.drew ?_ | refine Below.alloc ?_ ?_ _ | refine bbehind ?_ (by assumption) ?_)); all_goals first | (simp; done) | (simp; omega) | omega)⟩

end Go.Proofs.YtcgedpfolloinaaGreat

namespace Go.Proofs.YtcgedpfolloinaaGreat
open Go.RowKit

def hdText (h : Hd) : List UInt8 := if h.k = 1 then toldS h.n h.d else if h.k = 2 then quoQ h.x else h.l ++ attrsQ h.ats
structure HdOk (h : Hd) : Prop where
  fit : h.k = 1 → Fit h.n h.d
  l : h.l.length ≤ 1000
  x : h.x.length ≤ 1000
  n : h.ats.length ≤ 10
  a : ∀ q ∈ h.ats, q.1.length ≤ 1000 ∧ q.2.length ≤ 1000
theorem atsQ_le2 : ∀ (ats : List (List UInt8 × List UInt8)) (m : UInt8), (∀ q ∈ ats, q.1.length ≤ 1000 ∧ q.2.length ≤ 1000) → (atsQ m ats).length ≤ 3004 * ats.length
  | [], m, _ => by simp [atsQ]
  | q :: t, m, h => by
    have h1 := atsQ_le2 t 44 (fun q hq => h q (by simp [hq]))
    have h2 := h q (by simp)
    have h3 := quoQ_le q.2
    simp only [atsQ, List.length_cons, List.length_append]
    omega

set_option maxRecDepth 100000 in
set_option maxHeartbeats 4000000 in
theorem toldHead_any (h : Hd) (aa : Option Addr) (ca : Nat) (w : World) (ha : AttrsLie w (.slice aa h.ats.length ca) h.ats) (ok : HdOk h) :
    Calls Tryz.prog 128 #[hdVal h aa ca] w fun e w' => e = .returned (.string ⟨(hdText h).toArray⟩) ∧ Below w.heap.size w w' := by
  obtain ⟨o1, o2, o3, o4, o5⟩ := ok
  have HQ := Lib.hid (show hdText h = if h.k = 1 then toldS h.n h.d else if h.k = 2 then quoQ h.x else h.l ++ attrsQ h.ats from rfl)
  have HA := Lib.hid ha
  have HO5 := Lib.hid o5
  clear ha o5
  unfold hdVal
  by_cases h1 : h.k = 1
  · have TA := Lib.hid (fun w1 => told_any h.n h.d w1 (o1 h1))
    have HR := Lib.hid (HQ.out.trans (if_pos h1))
    have k1 : (h.k == 1) = true := by simpa using h1
    clear h1 o1
    go_enter Tryz.func128, Tryz.ntmps128
    go_wp2_with fail
    refine (TA.out _).mono ?_; rintro e w1 ⟨rfl, hb1⟩; obtain ⟨hc1, hf1⟩ := bcell hb1; have hs1 := hb1.size; (try simp at hs1); (try have hz10 : w.heap.size < w1.heap.size := by omega); (try have hz11 : w.heap.size + 1 < w1.heap.size := by omega); (try have hz12 : w.heap.size + 1 + 1 < w1.heap.size := by omega); (try have hz13 : w.heap.size + 1 + 1 + 1 < w1.heap.size := by omega); (try have hz14 : w.heap.size + 1 + 1 + 1 + 1 < w1.heap.size := by omega); (try have hz15 : w.heap.size + 1 + 1 + 1 + 1 + 1 < w1.heap.size := by omega)
    go_wp2_with fail
    go_ret
    exact ⟨by rw [HR.out]; rfl, by ((repeat' (first | exact Below.refl _ _ | assumption | refine Below.setCell ?_ ?_ _ | refine bdrewN ?_ _ | refine Below.drew ?_ | refine Below.alloc ?_ ?_ _ | refine bbehind ?_ (by assumption) ?_)); all_goals first | (simp; done) | (simp; omega) | omega)⟩
  · have k1 : (h.k == 1) = false := by simpa using h1
    by_cases h2 : h.k = 2
    · have HR := Lib.hid ((HQ.out.trans (if_neg h1)).trans (if_pos h2))
      have k2 : (h.k == 2) = true := by simpa using h2
      clear h1 h2 o1
      go_enter Tryz.func128, Tryz.ntmps128
      go_wp2_with fail
      refine (qquoted_any h.x _ (by omega)).mono ?_; rintro e w1 ⟨rfl, hb1⟩; obtain ⟨hc1, hf1⟩ := bcell hb1; have hs1 := hb1.size; (try simp at hs1); (try have hz10 : w.heap.size < w1.heap.size := by omega); (try have hz11 : w.heap.size + 1 < w1.heap.size := by omega); (try have hz12 : w.heap.size + 1 + 1 < w1.heap.size := by omega); (try have hz13 : w.heap.size + 1 + 1 + 1 < w1.heap.size := by omega); (try have hz14 : w.heap.size + 1 + 1 + 1 + 1 < w1.heap.size := by omega); (try have hz15 : w.heap.size + 1 + 1 + 1 + 1 + 1 < w1.heap.size := by omega)
      go_wp2_with fail
      go_ret
      exact ⟨by rw [HR.out]; rfl, by ((repeat' (first | exact Below.refl _ _ | assumption | refine Below.setCell ?_ ?_ _ | refine bdrewN ?_ _ | refine Below.drew ?_ | refine Below.alloc ?_ ?_ _ | refine bbehind ?_ (by assumption) ?_)); all_goals first | (simp; done) | (simp; omega) | omega)⟩
    · have HR := Lib.hid ((HQ.out.trans (if_neg h1)).trans (if_neg h2))
      have k2 : (h.k == 2) = false := by simpa using h2
      clear h1 h2 o1
      go_enter Tryz.func128, Tryz.ntmps128
      go_wp2_with fail
      go_loopw [3, 4] (fun s i wr => ∃ j : Nat, i = .int .i64 j ∧ j ≤ h.ats.length ∧ s = .string ⟨(h.l ++ atsQ 40 (h.ats.take j)).toArray⟩ ∧ wr.cell? ⟨w.heap.size, 2, none⟩ = some (.slice aa h.ats.length ca) ∧ w.heap.size < wr.heap.size ∧ Below w.heap.size w wr) (fun _ i _ => h.ats.length - (intOf i).toNat)
      case atStart => exact ⟨0, rfl, Nat.zero_le _, by simp [atsQ], by simp [go_sem], by simp, by ((repeat' (first | exact Below.refl _ _ | assumption | refine Below.setCell ?_ ?_ _ | refine bdrewN ?_ _ | refine Below.drew ?_ | refine Below.alloc ?_ ?_ _ | refine bbehind ?_ (by assumption) ?_)); all_goals first | (simp; done) | (simp; omega) | omega)⟩
      case round =>
        obtain ⟨j, rfl, hj, rfl, c2, hsz, hbw⟩ := hrel
        have hzz := hbw.size
        have hal := atsQ_le2 (h.ats.take j) 40 (fun q hq => HO5.out q (List.mem_of_mem_take hq))
        have hal2 : (h.ats.take j).length ≤ 10 := by simp; omega
        by_cases hlt : j < h.ats.length
        · have dj : decide (j < h.ats.length) = true := by simpa using hlt
          obtain ⟨ba, oa, capa, hs, -, -, hba, hca⟩ := attrs_row HA.out (by omega)
          simp only [Value.slice.injEq] at hs
          obtain ⟨rfl, -, rfl⟩ := hs
          obtain ⟨q1, q2⟩ := hca j hlt
          have q1 := (hbw.cell (p := ⟨ba, oa + j * 2, none⟩) hba).trans q1
          have q2 := (hbw.cell (p := ⟨ba, oa + j * 2 + 1, none⟩) hba).trans q2
          have hbar : ba < wr.heap.size := by omega
          have HT := Lib.hid (atsQ_take 40 hlt)
          have hlen := HO5.out (h.ats.getD j ([], [])) (by
            rw [List.getD_eq_getElem?_getD, List.getElem?_eq_getElem hlt, Option.getD_some]; exact List.getElem_mem _)
          generalize (h.ats.getD j ([], [])).1 = nm at *
          generalize (h.ats.getD j ([], [])).2 = vl at *
          have hq3 := quoQ_le vl
          have QQ := Lib.hid (fun (x : Lower wr) => calls_lower x (qquoted_any vl x.val (by omega)))
          obtain ⟨acc, hacc⟩ : ∃ acc, atsQ 40 (h.ats.take j) = acc := ⟨_, rfl⟩
          rw [hacc] at HT hal ⊢
          clear hca hacc
          by_cases hj0 : j = 0
          · have dj0 : ((j : Int) == 0) = true := by simpa using hj0
            have HE := Lib.hid (HT.out.trans (by rw [if_pos hj0]))
            clear hj0
            go_wp2_with fail
            refine wp_region_quiet_all (fun w' => ∃ x : Lower _, w' = x.val) (by kernel_rfl) (by kernel_rfl) ⟨⟨_, (Below.refl _ _).drew⟩, rfl⟩ ?_
            repeat (go_big_quiet_step ((go_at_call 158; exact QQ.out _)))
            refine wpQuiet_nil ?_
            intro w2 hx2
            obtain ⟨x2, hx2⟩ := hx2
            have hb2 := x2.prop
            rw [← hx2] at hb2
            clear hx2 x2
            obtain ⟨hc2, hf2⟩ := bcell hb2
            have hs2 := hb2.size
            try simp at hs2
            try have hz20 : w.heap.size < w2.heap.size := by omega
            try have hz21 : w.heap.size + 1 < w2.heap.size := by omega
            try have hz22 : w.heap.size + 1 + 1 < w2.heap.size := by omega
            try have hz23 : w.heap.size + 1 + 1 + 1 < w2.heap.size := by omega
            try have hz24 : w.heap.size + 1 + 1 + 1 + 1 < w2.heap.size := by omega
            try have hz25 : w.heap.size + 1 + 1 + 1 + 1 + 1 < w2.heap.size := by omega
            try have hy1_2 : w1.heap.size < w2.heap.size := by omega
            go_wp2_with fail
            go_roundw
            case rel => exact ⟨j + 1, by go_num, by omega, by rw [HE.out], by rw [hc2 _ _ hsz]; exact c2, by omega, hbw.trans (hb2.mono hbw.size)⟩
            case measure => simp [intOf]; omega
          · have dj0 : ((j : Int) == 0) = false := by simpa using hj0
            have HE := Lib.hid (HT.out.trans (by rw [if_neg hj0]))
            clear hj0
            go_wp2_with fail
            refine wp_region_quiet_all (fun w' => ∃ x : Lower _, w' = x.val) (by kernel_rfl) (by kernel_rfl) ⟨⟨_, (Below.refl _ _).drew⟩, rfl⟩ ?_
            repeat (go_big_quiet_step ((go_at_call 158; exact QQ.out _)))
            refine wpQuiet_nil ?_
            intro w2 hx2
            obtain ⟨x2, hx2⟩ := hx2
            have hb2 := x2.prop
            rw [← hx2] at hb2
            clear hx2 x2
            obtain ⟨hc2, hf2⟩ := bcell hb2
            have hs2 := hb2.size
            try simp at hs2
            try have hz20 : w.heap.size < w2.heap.size := by omega
            try have hz21 : w.heap.size + 1 < w2.heap.size := by omega
            try have hz22 : w.heap.size + 1 + 1 < w2.heap.size := by omega
            try have hz23 : w.heap.size + 1 + 1 + 1 < w2.heap.size := by omega
            try have hz24 : w.heap.size + 1 + 1 + 1 + 1 < w2.heap.size := by omega
            try have hz25 : w.heap.size + 1 + 1 + 1 + 1 + 1 < w2.heap.size := by omega
            try have hy1_2 : w1.heap.size < w2.heap.size := by omega
            go_wp2_with fail
            go_roundw
            case rel => exact ⟨j + 1, by go_num, by omega, by rw [HE.out], by rw [hc2 _ _ hsz]; exact c2, by omega, hbw.trans (hb2.mono hbw.size)⟩
            case measure => simp [intOf]; omega
        · have dj : decide (j < h.ats.length) = false := by simpa using hlt
          obtain rfl : j = h.ats.length := by omega
          have e : h.ats.take h.ats.length = h.ats := List.take_length
          rw [e] at hal ⊢
          clear e
          by_cases hn0 : h.ats.length = 0
          · have hnd : decide (0 < h.ats.length) = false := decide_eq_false (by omega)
            have HE := Lib.hid (show h.l ++ atsQ 40 h.ats = hdText h by
              rw [HR.out]; unfold attrsQ; rw [if_pos hn0, List.eq_nil_of_length_eq_zero hn0]; rfl)
            clear hn0
            go_wp2_with fail
            go_ret
            exact ⟨ret_str HE.out, hbw⟩
          · have hnd : decide (0 < h.ats.length) = true := decide_eq_true (by omega)
            have HE := Lib.hid (show h.l ++ (atsQ 40 h.ats ++ [41]) = hdText h by
              rw [HR.out]; unfold attrsQ; rw [if_neg hn0])
            clear hn0
            generalize atsQ 40 h.ats = acc at *
            go_wp2_with fail
            go_ret
            exact ⟨ret_str HE.out, hbw⟩
end Go.Proofs.YtcgedpfolloinaaGreat

namespace Go.Proofs.YtcgedpfolloinaaGreat
open Go.RowKit

def foOk : Fo → Prop
  | .nil => True
  | .cons h ks r => HdOk h ∧ ((h.k = 1 → chk h.n h.d = 0) ∧ (h.k ≠ 0 → ks.len = 0)) ∧ foOk ks ∧ foOk r
theorem treeQ_eq {h : Hd} {ks : Fo} (h1 : h.k = 1 → chk h.n h.d = 0) (h2 : h.k ≠ 0 → ks.len = 0) : treeQ h ks = hdText h ++ (if ks.len = 0 then [] else 123 :: (foQ true ks ++ [125])) := by
  unfold treeQ hdText elemQ
  by_cases k1 : h.k = 1
  · rw [if_pos k1, if_pos k1, if_pos (h2 (by omega))]
    unfold printE
    rw [if_pos (h1 k1), List.append_nil]
  · rw [if_neg k1, if_neg k1]
    by_cases k2 : h.k = 2
    · rw [if_pos k2, if_pos k2, if_pos (h2 (by omega)), List.append_nil]
    · rw [if_neg k2, if_neg k2, List.append_assoc]
theorem foOk_drop : ∀ {f : Fo} {k : Nat} {h : Hd} {ks r : Fo}, foOk f → f.drop k = .cons h ks r → HdOk h ∧ ((h.k = 1 → chk h.n h.d = 0) ∧ (h.k ≠ 0 → ks.len = 0)) ∧ foOk ks
  | .nil, k, _, _, _, _, e => by rw [Fo.drop_nil] at e; cases e
  | .cons h0 k0 r0, 0, h, ks, r, ha, e => by
    simp only [Fo.drop, Fo.cons.injEq] at e
    obtain ⟨rfl, rfl, rfl⟩ := e
    exact ⟨ha.1, ha.2.1, ha.2.2.1⟩
  | .cons h0 k0 r0, k + 1, h, ks, r, ha, e => foOk_drop ha.2.2.2 e

set_option maxRecDepth 100000 in
set_option maxHeartbeats 4000000 in
theorem told_of (f : Fo) (v : Value) (w : World) (hl : Lies w v f) (ok : foOk f) (hlen : (foQ true f).length ≤ 100000)
    (HK : ∀ k h ks, k < f.len → f.drop k = .cons h ks (f.drop (k + 1)) → ∀ v w, Lies w v ks → (foQ true ks).length ≤ 100000 → Calls Tryz.prog 84 #[v] w fun e w' => e = .returned (.string ⟨(foQ true ks).toArray⟩) ∧ Below w.heap.size w w') :
    Calls Tryz.prog 84 #[v] w fun e w' => e = .returned (.string ⟨(foQ true f).toArray⟩) ∧ Below w.heap.size w w' := by
  have HL := Lib.hid hl
  have HK' := Lib.hid HK
  have OK := Lib.hid ok
  have hfl := lies_len hl
  obtain ⟨a, cap, rfl⟩ := lies_form hl
  clear hl HK ok
  go_enter Tryz.func84, Tryz.ntmps84
  go_wp2_with fail
  go_loopw [3, 4] (fun s i wr => ∃ k : Nat, i = .int .i64 k ∧ k ≤ f.len ∧ s = .string ⟨(foQ true (f.take k)).toArray⟩ ∧ Below w.heap.size w wr) (fun _ i _ => f.len - (intOf i).toNat)
  case atStart => exact ⟨0, rfl, Nat.zero_le _, by simp [Fo.take, foQ], Below.refl _ _⟩
  case round =>
    obtain ⟨k, rfl, hk, rfl, hbw⟩ := hrel
    have hsz := hbw.size
    by_cases hlt : k < f.len
    · have dk : decide (k < f.len) = true := by simpa using hlt
      obtain ⟨bf, of, cp, hs, -, -, hbf, hrow⟩ := lies_row HL.out (by omega)
      simp only [Value.slice.injEq] at hs
      obtain ⟨rfl, -, rfl⟩ := hs
      obtain ⟨hd, ks, e, ⟨q0, q1, ⟨va, q2, ha'⟩, q3, q4, q5⟩, vk, q6, hlk⟩ := row_get hrow hlt
      obtain ⟨aa, ca, rfl⟩ := attrs_form ha'
      obtain ⟨ak, ck, rfl⟩ := lies_form hlk
      obtain ⟨hok1, hok2, hok3⟩ := foOk_drop OK.out e
      have r0 := (hbw.cell (p := ⟨bf, of + k * 7, none⟩) hbf).trans q0
      have r1 := (hbw.cell (p := ⟨bf, of + k * 7 + 1, none⟩) hbf).trans q1
      have r2 := (hbw.cell (p := ⟨bf, of + k * 7 + 2, none⟩) hbf).trans q2
      have r3 := (hbw.cell (p := ⟨bf, of + k * 7 + 3, none⟩) hbf).trans q3
      have r4 := (hbw.cell (p := ⟨bf, of + k * 7 + 4, none⟩) hbf).trans q4
      have r5 := (hbw.cell (p := ⟨bf, of + k * 7 + 5, none⟩) hbf).trans q5
      have r6 := (hbw.cell (p := ⟨bf, of + k * 7 + 6, none⟩) hbf).trans q6
      have hbfr : bf < wr.heap.size := by omega
      have HTK := Lib.hid (foQ_take true e)
      have HTE := Lib.hid (treeQ_eq hok2.1 hok2.2)
      have hll := congrArg List.length HTK.out
      have hll2 := foQ_len f (k + 1) true
      have hll3 := congrArg List.length HTE.out
      simp only [List.length_append] at hll hll3
      have TH := Lib.hid (fun w1 (hw : Below w.heap.size w w1) => toldHead_any hd aa ca w1 (attrs_below ha' hw) hok1)
      have HKK := Lib.hid (fun w1 (hw : Below w.heap.size w w1) => HK'.out k hd ks hlt e _ w1 (lies_below hlk hw))
      unfold hdVal at TH
      obtain ⟨acc, hacc⟩ : ∃ acc, foQ true (f.take k) = acc := ⟨_, rfl⟩
      rw [hacc] at HTK hll ⊢
      clear q0 q1 q2 q3 q4 q5 q6 ha' hlk e hrow hok1 hok2 hok3 hacc
      by_cases hj0 : k = 0
      · have dj0 : decide (0 < k) = false := decide_eq_false (by omega)
        rw [if_pos (show (if k = 0 then true else false) = true by rw [if_pos hj0])] at HTK
        clear hj0
        by_cases hk0 : ks.len = 0
        · have hkd : decide (0 < ks.len) = false := decide_eq_false (by omega)
          have HF := Lib.hid (HTK.out.trans (by rw [HTE.out, if_pos hk0]))
          clear hk0
          go_wp2_with fail
          refine (TH.out _ hbw).mono ?_; rintro e w1 ⟨rfl, hb1⟩; obtain ⟨hc1, hf1⟩ := bcell hb1; have hs1 := hb1.size; (try simp at hs1); (try have hz10 : w.heap.size < w1.heap.size := by omega); (try have hz11 : w.heap.size + 1 < w1.heap.size := by omega); (try have hz12 : w.heap.size + 1 + 1 < w1.heap.size := by omega); (try have hz13 : w.heap.size + 1 + 1 + 1 < w1.heap.size := by omega); (try have hz14 : w.heap.size + 1 + 1 + 1 + 1 < w1.heap.size := by omega); (try have hz15 : w.heap.size + 1 + 1 + 1 + 1 + 1 < w1.heap.size := by omega)
          have g6 := (hc1 bf (of + k * 7 + 6) hbfr).trans r6
          have hbf1 : bf < w1.heap.size := by omega
          go_wp2_with fail
          go_roundw
          case rel => exact ⟨k + 1, by go_num, by omega, by rw [HF.out]; simp, hbw.trans (hb1.mono hbw.size)⟩
          case measure => simp [intOf]; omega
        · have hkd : decide (0 < ks.len) = true := decide_eq_true (by omega)
          have HF := Lib.hid (HTK.out.trans (by rw [HTE.out, if_neg hk0]))
          have hlf := congrArg List.length (HTE.out.trans (by rw [if_neg hk0]))
          simp only [List.length_append, List.length_cons, List.length_nil] at hlf
          clear hk0
          go_wp2_with fail
          refine (TH.out _ hbw).mono ?_; rintro e w1 ⟨rfl, hb1⟩; obtain ⟨hc1, hf1⟩ := bcell hb1; have hs1 := hb1.size; (try simp at hs1); (try have hz10 : w.heap.size < w1.heap.size := by omega); (try have hz11 : w.heap.size + 1 < w1.heap.size := by omega); (try have hz12 : w.heap.size + 1 + 1 < w1.heap.size := by omega); (try have hz13 : w.heap.size + 1 + 1 + 1 < w1.heap.size := by omega); (try have hz14 : w.heap.size + 1 + 1 + 1 + 1 < w1.heap.size := by omega); (try have hz15 : w.heap.size + 1 + 1 + 1 + 1 + 1 < w1.heap.size := by omega)
          have g6 := (hc1 bf (of + k * 7 + 6) hbfr).trans r6
          have hbf1 : bf < w1.heap.size := by omega
          go_wp2_with fail
          refine (HKK.out w1 (hbw.trans (hb1.mono hbw.size)) (by omega)).mono ?_; rintro e w2 ⟨rfl, hb2⟩; obtain ⟨hc2, hf2⟩ := bcell hb2; have hs2 := hb2.size; (try simp at hs2); (try have hz20 : w.heap.size < w2.heap.size := by omega); (try have hz21 : w.heap.size + 1 < w2.heap.size := by omega); (try have hz22 : w.heap.size + 1 + 1 < w2.heap.size := by omega); (try have hz23 : w.heap.size + 1 + 1 + 1 < w2.heap.size := by omega); (try have hz24 : w.heap.size + 1 + 1 + 1 + 1 < w2.heap.size := by omega); (try have hz25 : w.heap.size + 1 + 1 + 1 + 1 + 1 < w2.heap.size := by omega); (try have hy1_2 : w1.heap.size < w2.heap.size := by omega)
          go_wp2_with fail
          go_roundw
          case rel => exact ⟨k + 1, by go_num, by omega, by rw [HF.out]; simp, (hbw.trans (hb1.mono hbw.size)).trans (hb2.mono (Nat.le_trans hbw.size hb1.size))⟩
          case measure => simp [intOf]; omega
      · have dj0 : decide (0 < k) = true := decide_eq_true (by omega)
        have hng : ¬ (if k = 0 then true else false) = true := by rw [if_neg hj0]; decide
        rw [if_neg hng] at HTK hll
        simp only [List.length_cons, List.length_nil] at hll
        clear hj0 hng
        by_cases hk0 : ks.len = 0
        · have hkd : decide (0 < ks.len) = false := decide_eq_false (by omega)
          have HF := Lib.hid (HTK.out.trans (by rw [HTE.out, if_pos hk0]))
          clear hk0
          go_wp2_with fail
          refine (TH.out _ hbw).mono ?_; rintro e w1 ⟨rfl, hb1⟩; obtain ⟨hc1, hf1⟩ := bcell hb1; have hs1 := hb1.size; (try simp at hs1); (try have hz10 : w.heap.size < w1.heap.size := by omega); (try have hz11 : w.heap.size + 1 < w1.heap.size := by omega); (try have hz12 : w.heap.size + 1 + 1 < w1.heap.size := by omega); (try have hz13 : w.heap.size + 1 + 1 + 1 < w1.heap.size := by omega); (try have hz14 : w.heap.size + 1 + 1 + 1 + 1 < w1.heap.size := by omega); (try have hz15 : w.heap.size + 1 + 1 + 1 + 1 + 1 < w1.heap.size := by omega)
          have g6 := (hc1 bf (of + k * 7 + 6) hbfr).trans r6
          have hbf1 : bf < w1.heap.size := by omega
          go_wp2_with fail
          go_roundw
          case rel => exact ⟨k + 1, by go_num, by omega, by rw [HF.out]; simp, hbw.trans (hb1.mono hbw.size)⟩
          case measure => simp [intOf]; omega
        · have hkd : decide (0 < ks.len) = true := decide_eq_true (by omega)
          have HF := Lib.hid (HTK.out.trans (by rw [HTE.out, if_neg hk0]))
          have hlf := congrArg List.length (HTE.out.trans (by rw [if_neg hk0]))
          simp only [List.length_append, List.length_cons, List.length_nil] at hlf
          clear hk0
          go_wp2_with fail
          refine (TH.out _ hbw).mono ?_; rintro e w1 ⟨rfl, hb1⟩; obtain ⟨hc1, hf1⟩ := bcell hb1; have hs1 := hb1.size; (try simp at hs1); (try have hz10 : w.heap.size < w1.heap.size := by omega); (try have hz11 : w.heap.size + 1 < w1.heap.size := by omega); (try have hz12 : w.heap.size + 1 + 1 < w1.heap.size := by omega); (try have hz13 : w.heap.size + 1 + 1 + 1 < w1.heap.size := by omega); (try have hz14 : w.heap.size + 1 + 1 + 1 + 1 < w1.heap.size := by omega); (try have hz15 : w.heap.size + 1 + 1 + 1 + 1 + 1 < w1.heap.size := by omega)
          have g6 := (hc1 bf (of + k * 7 + 6) hbfr).trans r6
          have hbf1 : bf < w1.heap.size := by omega
          go_wp2_with fail
          refine (HKK.out w1 (hbw.trans (hb1.mono hbw.size)) (by omega)).mono ?_; rintro e w2 ⟨rfl, hb2⟩; obtain ⟨hc2, hf2⟩ := bcell hb2; have hs2 := hb2.size; (try simp at hs2); (try have hz20 : w.heap.size < w2.heap.size := by omega); (try have hz21 : w.heap.size + 1 < w2.heap.size := by omega); (try have hz22 : w.heap.size + 1 + 1 < w2.heap.size := by omega); (try have hz23 : w.heap.size + 1 + 1 + 1 < w2.heap.size := by omega); (try have hz24 : w.heap.size + 1 + 1 + 1 + 1 < w2.heap.size := by omega); (try have hz25 : w.heap.size + 1 + 1 + 1 + 1 + 1 < w2.heap.size := by omega); (try have hy1_2 : w1.heap.size < w2.heap.size := by omega)
          go_wp2_with fail
          go_roundw
          case rel => exact ⟨k + 1, by go_num, by omega, by rw [HF.out]; simp, (hbw.trans (hb1.mono hbw.size)).trans (hb2.mono (Nat.le_trans hbw.size hb1.size))⟩
          case measure => simp [intOf]; omega
    · have dk : decide (k < f.len) = false := by simpa using hlt
      obtain rfl : k = f.len := by omega
      have e : f.take f.len = f := Fo.take_len f
      rw [e]
      go_wp2_with fail
      go_ret
      exact ⟨rfl, hbw⟩
theorem told_all : ∀ (N : Nat) (f : Fo), f.size ≤ N → foOk f → ∀ (v : Value) (w : World), Lies w v f → (foQ true f).length ≤ 100000 → Calls Tryz.prog 84 #[v] w fun e w' => e = .returned (.string ⟨(foQ true f).toArray⟩) ∧ Below w.heap.size w w' := by
  intro N
  induction N with
  | zero =>
    intro f hf ok v w hl hlen
    exact told_of f v w hl ok hlen (fun k h ks hk => by have := Fo.len_le_size f; omega)
  | succ N ih =>
    intro f hf ok v w hl hlen
    refine told_of f v w hl ok hlen (fun k h ks hk e v w hl hlen => ih ks ?_ (foOk_drop ok e).2.2 v w hl hlen)
    have := Fo.size_app (f.take k) (f.drop k)
    rw [Fo.take_app_drop, e] at this
    simp only [Fo.size] at this
    omega
end Go.Proofs.YtcgedpfolloinaaGreat

namespace Go.Proofs.YtcgedpfolloinaaGreat
open Go.RowKit

theorem hd_ok {h : Hd} (e : headErr h = 0) : HdOk h ∧ (h.k = 1 → chk h.n h.d = 0) := by
  unfold headErr at e
  by_cases h0 : strayB h = true
  · rw [if_pos h0] at e; cases e
  rw [if_neg h0] at e
  unfold strayB at h0
  by_cases h1 : h.k = 1
  · rw [if_pos h1] at e
    simp [h1] at h0
    exact ⟨⟨fun _ => fit_of_chk e, by rw [h0.2.1]; simp, by rw [h0.1]; simp, by rw [h0.2.2]; simp, by rw [h0.2.2]; simp⟩, fun _ => e⟩
  · rw [if_neg h1] at e
    by_cases h2 : h.k = 2
    · rw [if_pos h2] at e
      simp [h2] at h0
      have hp : printableB h.x 24 = true := by
        by_cases hp : printableB h.x 24 = true
        · exact hp
        · rw [if_neg hp] at e; cases e
      have := printable_ok hp
      exact ⟨⟨fun k => absurd k h1, by rw [h0.2.1]; simp, by omega, by rw [h0.2.2]; simp, by rw [h0.2.2]; simp⟩, fun k => absurd k h1⟩
    · rw [if_neg h2] at e
      by_cases h3 : h.k = 0
      · simp [h3] at h0
        unfold elemErr at e
        by_cases g1 : namedB h.l = false
        · rw [if_pos g1] at e; cases e
        rw [if_neg g1] at e
        by_cases g2 : 3 < h.ats.length
        · rw [if_pos g2] at e; cases e
        rw [if_neg g2] at e
        have ha := attrs_ok _ _ e
        have hl := named_ok (by simpa using g1 : namedB h.l = true)
        exact ⟨⟨fun k => absurd k h1, by omega, by rw [h0.2]; simp, by omega, fun q hq => ⟨by have := (ha q hq).1; omega, by have := (ha q hq).2.1; omega⟩⟩, fun k => absurd k h1⟩
      · simp [h1, h2, h3] at h0
theorem headsok_rx : ∀ f : Fo, headsErr f = 0 → foOk f
  | .nil, _ => trivial
  | .cons h ks r, e => by
    unfold headsErr at e
    by_cases h1 : headErr h ≠ 0
    · rw [if_pos h1] at e; exact absurd e h1
    rw [if_neg h1] at e
    by_cases h2 : h.k ≠ 0 ∧ ks.len ≠ 0
    · rw [if_pos h2] at e; cases e
    rw [if_neg h2] at e
    by_cases h3 : headsErr ks ≠ 0
    · rw [if_pos h3] at e; exact absurd e h3
    rw [if_neg h3] at e
    have hh := hd_ok (h := h) (by simpa using h1)
    exact ⟨hh.1, ⟨hh.2, fun hk => by
      by_cases hl : ks.len = 0
      · exact hl
      · exact absurd ⟨hk, hl⟩ h2⟩, headsok_rx ks (by simpa using h3), headsok_rx r e⟩
theorem valid_fo {f : Fo} (h : foErr f = 0) : foOk f ∧ (foQ true f).length ≤ 48000 := by
  refine ⟨headsok_rx f ?_, (valid_ok h).2⟩
  unfold foErr at h
  by_cases h1 : 400 < f.size
  · rw [if_pos h1] at h; cases h
  rw [if_neg h1] at h
  by_cases h2 : 40 < f.deep
  · rw [if_pos h2] at h; cases h
  rw [if_neg h2] at h
  exact h

set_option maxRecDepth 100000 in
set_option maxHeartbeats 2000000 in
theorem qdigest_any (f : Fo) (v : Value) (w : World) (hl : Lies w v f) (hs : Small f) :
    Calls Tryz.prog 26 #[v] w fun e w' => e = .returned (.tuple #[.int .i64 (digF f).1, .int .i64 (digF f).2]) ∧ Below w.heap.size w w' := by
  have CH := Lib.hid (qcheck_any f v w hl hs)
  have HV := Lib.hid (fun h => valid_fo (f := f) h)
  have WR := Lib.hid (fun w1 (hw : Below w.heap.size w w1) (ha : foOk f ∧ (foQ true f).length ≤ 48000) => told_all f.size f (Nat.le_refl _) ha.1 v w1 (lies_below hl hw) (by omega))
  obtain ⟨a, cap, rfl⟩ := lies_form hl
  have HP := Lib.hid (show digF f = if foErr f = 0 then (digI (foQ true f), 0) else (0, foErr f) from rfl)
  clear hl hs
  generalize foErr f = er at *
  by_cases he : er = 0
  · have b0 : (er != 0) = false := by simpa using he
    have HA2 := Lib.hid (HV.out he)
    have HQ := Lib.hid (HP.out.trans (if_pos he))
    clear he
    generalize foQ true f = q at *
    have hql := HA2.out.2
    go_enter Tryz.func26, Tryz.ntmps26
    go_wp2_with fail
    refine CH.out.mono ?_
    rintro e w1 ⟨rfl, hb1⟩
    go_wp2_with fail
    refine (WR.out w1 hb1 HA2.out).mono ?_
    rintro e w2 ⟨rfl, hb2⟩
    have hB := hb1.trans (hb2.mono hb1.size)
    go_wp2_with fail
    refine (digestOf_any q w2 hql).mono ?_
    rintro e w3 ⟨rfl, hb3⟩
    go_wp2_with fail
    go_ret2
    rw [HQ.out]
    exact ⟨rfl, hB.trans (hb3.mono hB.size)⟩
  · have b0 : (er != 0) = true := by simpa using he
    have HQ := Lib.hid (HP.out.trans (if_neg (by simpa using he)))
    clear he
    go_enter Tryz.func26, Tryz.ntmps26
    go_wp2_with fail
    refine CH.out.mono ?_
    rintro e w1 ⟨rfl, hb1⟩
    go_wp2_with fail
    go_ret2
    rw [HQ.out]
    exact ⟨rfl, hb1⟩

end Go.Proofs.YtcgedpfolloinaaGreat

namespace Go.Proofs.YtcgedpfolloinaaGreat
open Go.RowKit

/-- a head's value. -/
def hdA (h : Hd) (va : Value) : Value := .agg #[.int .i64 h.k, .string ⟨h.l.toArray⟩, va, .int .i64 h.n, .int .i64 h.d, .string ⟨h.x.toArray⟩]

set_option maxRecDepth 100000 in
set_option maxHeartbeats 8000000 in
theorem checks_any (h : Hd) (va : Value) (f : Fo) (v : Value) (w : World) (ha : AttrsLie w va h.ats) (hl : Lies w v f) :
    Calls Tryz.prog 3 #[hdA h va, v] w fun e w' => e = .returned (.bool true) ∧ Below w.heap.size w w' := by
  unfold hdA
  have GR := Lib.hid (fun w => grown_any w)
  have GH := Lib.hid (fun w1 (hw : Below w.heap.size w w1) => greatHead_any h va w1 (attrs_below ha hw))
  cases hgh : greatHead h with
  | true =>
    rw [hgh] at GH
    clear ha hl hgh
    go_enter Tryz.func3, Tryz.ntmps3
    go_wp2_with fail
    refine (GH.out _ (by ((repeat' (first | exact Below.refl _ _ | assumption | refine Below.setCell ?_ ?_ _ | refine bdrewN ?_ _ | refine Below.drew ?_ | refine Below.alloc ?_ ?_ _ | refine bbehind ?_ (by assumption) ?_)); all_goals first | (simp; done) | (simp; omega) | omega))).mono ?_
    rintro e w1 ⟨rfl, hb1⟩
    have hs1 := hb1.size
    simp at hs1
    go_wp2_with fail
    refine (GR.out _).mono ?_
    rintro e w2 ⟨rfl, hb2⟩
    go_wp2_with fail
    go_ret
    exact ⟨rfl, by ((repeat' (first | exact Below.refl _ _ | assumption | refine Below.setCell ?_ ?_ _ | refine bdrewN ?_ _ | refine Below.drew ?_ | refine Below.alloc ?_ ?_ _ | refine bbehind ?_ (by assumption) ?_)); all_goals first | (simp; done) | (simp; omega) | omega)⟩
  | false =>
    rw [hgh] at GH
    have GF := Lib.hid (fun w1 (hw : Below w.heap.size w w1) => great_any f.size f v w1 (Nat.le_refl _) (lies_below hl hw))
    obtain ⟨a, cap, rfl⟩ := lies_form hl
    obtain ⟨aa, ca, rfl⟩ := attrs_form ha
    cases hgf : great f with
    | true =>
      rw [hgf] at GF
      clear ha hl hgh hgf
      go_enter Tryz.func3, Tryz.ntmps3
      go_wp2_with fail
      refine (GH.out _ (by ((repeat' (first | exact Below.refl _ _ | assumption | refine Below.setCell ?_ ?_ _ | refine bdrewN ?_ _ | refine Below.drew ?_ | refine Below.alloc ?_ ?_ _ | refine bbehind ?_ (by assumption) ?_)); all_goals first | (simp; done) | (simp; omega) | omega))).mono ?_
      rintro e w1 ⟨rfl, hb1⟩
      have hs1 := hb1.size
      simp at hs1
      have B1 : Below w.heap.size w w1 := by ((repeat' (first | exact Below.refl _ _ | assumption | refine Below.setCell ?_ ?_ _ | refine bdrewN ?_ _ | refine Below.drew ?_ | refine Below.alloc ?_ ?_ _ | refine bbehind ?_ (by assumption) ?_)); all_goals first | (simp; done) | (simp; omega) | omega)
      go_wp2_with fail
      refine (GF.out _ B1).mono ?_
      rintro e w2 ⟨rfl, hb2⟩
      have hs2 := hb2.size
      have B2 : Below w.heap.size w w2 := B1.trans (hb2.mono B1.size)
      go_wp2_with fail
      refine (GR.out _).mono ?_
      rintro e w3 ⟨rfl, hb3⟩
      go_wp2_with fail
      go_ret
      exact ⟨rfl, B2.trans (hb3.mono B2.size)⟩
    | false =>
      rw [hgf] at GF
      have SM := small_lies hl hgf
      have HF := (hdFit_of hgh).1
      have TH := Lib.hid (fun w1 (hw : Below w.heap.size w w1) => thead_any h _ w1 (attrs_below ha hw) HF)
      have QH := Lib.hid (fun w1 (hw : Below w.heap.size w w1) => qhead_any h _ w1 (attrs_below ha hw) HF)
      have TF := Lib.hid (fun w1 (hw : Below w.heap.size w w1) => tcheck_any f _ w1 (lies_below hl hw) SM)
      have QF := Lib.hid (fun w1 (hw : Below w.heap.size w w1) => qcheck_any f _ w1 (lies_below hl hw) SM)
      have TS := Lib.hid (fun w1 (hw : Below w.heap.size w w1) => tsize_any f _ w1 (lies_below hl hw) SM)
      have QS := Lib.hid (fun w1 (hw : Below w.heap.size w w1) => qsize_any f _ w1 (lies_below hl hw) SM)
      have TD := Lib.hid (fun w1 (hw : Below w.heap.size w w1) => tdeep_any f _ w1 (lies_below hl hw) SM)
      have QD := Lib.hid (fun w1 (hw : Below w.heap.size w w1) => qdeep_any f _ w1 (lies_below hl hw) SM)
      have TG := Lib.hid (fun w1 (hw : Below w.heap.size w w1) => tdigest_any f _ w1 (lies_below hl hw) SM)
      have QG := Lib.hid (fun w1 (hw : Below w.heap.size w w1) => qdigest_any f _ w1 (lies_below hl hw) SM)
      generalize headErr h = E1 at *
      generalize foErr f = E2 at *
      generalize sizeT f = E3 at *
      generalize deepT f = E4 at *
      generalize digF f = E5 at *
      clear ha hl hgh hgf SM HF
      go_enter Tryz.func3, Tryz.ntmps3
      go_wp2_with fail
      refine (GH.out _ (by ((repeat' (first | exact Below.refl _ _ | assumption | refine Below.setCell ?_ ?_ _ | refine bdrewN ?_ _ | refine Below.drew ?_ | refine Below.alloc ?_ ?_ _ | refine bbehind ?_ (by assumption) ?_)); all_goals first | (simp; done) | (simp; omega) | omega))).mono ?_
      rintro e w1 ⟨rfl, hb1⟩
      have hs1 := hb1.size
      simp at hs1
      have B1 : Below w.heap.size w w1 := by ((repeat' (first | exact Below.refl _ _ | assumption | refine Below.setCell ?_ ?_ _ | refine bdrewN ?_ _ | refine Below.drew ?_ | refine Below.alloc ?_ ?_ _ | refine bbehind ?_ (by assumption) ?_)); all_goals first | (simp; done) | (simp; omega) | omega)
      have K1 := Lib.hid ((hb1.block w.heap.size (by simp)).trans (World.alloc_heap_new _ _))
      go_wp2_with fail
      refine (GF.out _ B1).mono ?_
      rintro e w2 ⟨rfl, hb2⟩
      have hs2 := hb2.size
      have B2 : Below w.heap.size w w2 := B1.trans (hb2.mono B1.size)
      have k2 := (hb2.block w.heap.size (by omega)).trans K1.out
      have d0 : w2.cell? ⟨w.heap.size, 0, none⟩ = some (.int .i64 h.k) := cell_of_block k2 rfl
      have d1 : w2.cell? ⟨w.heap.size, 1, none⟩ = some (.string ⟨h.l.toArray⟩) := cell_of_block k2 rfl
      have d2 : w2.cell? ⟨w.heap.size, 2, none⟩ = some (.slice aa h.ats.length ca) := cell_of_block k2 rfl
      have d3 : w2.cell? ⟨w.heap.size, 3, none⟩ = some (.int .i64 h.n) := cell_of_block k2 rfl
      have d4 : w2.cell? ⟨w.heap.size, 4, none⟩ = some (.int .i64 h.d) := cell_of_block k2 rfl
      have d5 : w2.cell? ⟨w.heap.size, 5, none⟩ = some (.string ⟨h.x.toArray⟩) := cell_of_block k2 rfl
      have hlt2 : w.heap.size < w2.heap.size := by omega
      have XTH := Lib.hid (fun x : Lower w2 => TH.out x.val (B2.trans (x.prop.mono B2.size)))
      have XQH := Lib.hid (fun x : Lower w2 => QH.out x.val (B2.trans (x.prop.mono B2.size)))
      have XTF := Lib.hid (fun x : Lower w2 => TF.out x.val (B2.trans (x.prop.mono B2.size)))
      have XQF := Lib.hid (fun x : Lower w2 => QF.out x.val (B2.trans (x.prop.mono B2.size)))
      clear hb1 hb2 k2 K1
      go_wp2_with fail
      refine wp_region_quiet_all (fun w' => ∃ x : Lower _, w' = x.val) (by kernel_rfl) (by kernel_rfl) ⟨⟨_, (Below.refl _ _).drew⟩, rfl⟩ ?_
      repeat (go_big_quiet_step (first | (go_at_call 17; exact calls_lower _ (XTH.out _)) | (go_at_call 18; exact calls_lower _ (XQH.out _)) | (go_at_call 19; exact calls_lower _ (XTF.out _)) | (go_at_call 20; exact calls_lower _ (XQF.out _))))
      refine wpQuiet_nil ?_
      intro w3 hx3
      obtain ⟨x3, hx3⟩ := hx3
      have hb3 := x3.prop
      rw [← hx3] at hb3
      clear hx3 x3
      obtain ⟨hc3, hf3⟩ := bcell hb3
      have hs3 := hb3.size
      try simp at hs3
      try have hz30 : w.heap.size < w3.heap.size := by omega
      try have hz31 : w.heap.size + 1 < w3.heap.size := by omega
      try have hz32 : w.heap.size + 1 + 1 < w3.heap.size := by omega
      try have hz33 : w.heap.size + 1 + 1 + 1 < w3.heap.size := by omega
      try have hz34 : w.heap.size + 1 + 1 + 1 + 1 < w3.heap.size := by omega
      try have hz35 : w.heap.size + 1 + 1 + 1 + 1 + 1 < w3.heap.size := by omega
      try have hy1_3 : w1.heap.size < w3.heap.size := by omega
      try have hy2_3 : w2.heap.size < w3.heap.size := by omega
      have B3 : Below w.heap.size w w3 := B2.trans (hb3.mono B2.size)
      clear hb3 hc3 hf3 XTH XQH XTF XQF d0 d1 d2 d3 d4 d5
      go_wp2_with fail
      refine (TS.out _ B3).mono ?_
      rintro e w4 ⟨rfl, hb4⟩
      have B4 : Below w.heap.size w w4 := B3.trans (hb4.mono B3.size)
      clear hb4
      go_wp2_with fail
      refine (QS.out _ B4).mono ?_
      rintro e w5 ⟨rfl, hb5⟩
      have B5 : Below w.heap.size w w5 := B4.trans (hb5.mono B4.size)
      clear hb5
      go_wp2_with fail
      refine (TD.out _ B5).mono ?_
      rintro e w6 ⟨rfl, hb6⟩
      have B6 : Below w.heap.size w w6 := B5.trans (hb6.mono B5.size)
      clear hb6
      go_wp2_with fail
      refine (QD.out _ B6).mono ?_
      rintro e w7 ⟨rfl, hb7⟩
      have B7 : Below w.heap.size w w7 := B6.trans (hb7.mono B6.size)
      clear hb7
      go_wp2_with fail
      refine (TG.out _ B7).mono ?_
      rintro e w8 ⟨rfl, hb8⟩
      have B8 : Below w.heap.size w w8 := B7.trans (hb8.mono B7.size)
      clear hb8
      go_wp2_with fail
      refine (QG.out _ B8).mono ?_
      rintro e w9 ⟨rfl, hb9⟩
      have B9 : Below w.heap.size w w9 := B8.trans (hb9.mono B8.size)
      clear hb9
      go_wp2_with fail
      refine (GR.out _).mono ?_
      rintro e w10 ⟨rfl, hb10⟩
      go_wp2_with fail
      go_ret
      exact ⟨rfl, B9.trans (hb10.mono B9.size)⟩
end Go.Proofs.YtcgedpfolloinaaGreat
