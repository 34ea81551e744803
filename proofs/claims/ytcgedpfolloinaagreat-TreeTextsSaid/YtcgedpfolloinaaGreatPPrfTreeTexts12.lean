/- What the proof of PrfTreeTexts rests on, part 12 of 13. -/
import Derived.Test.YtcgedpfolloinaaGreatPPrfTreeTexts11
namespace Go.Proofs.YtcgedpfolloinaaGreat
open Go.RowKit

theorem rhead_any (l : List UInt8) (k : Nat) (w : World) (hk : k ≤ l.length) (hl : l.length ≤ 90000) :
    Calls Tryz.prog 153 #[.string ⟨l.toArray⟩, .int .i64 k] w (HdRes w l (headP (l.drop k))) := by
  by_cases hlt : k < l.length
  · obtain ⟨c, hc⟩ : ∃ c, l[k] = c := ⟨_, rfl⟩
    by_cases h34 : c.toNat = 34
    · exact rhead_quo l k c w hlt hl hc h34
    · cases hlet : letterB c with
      | false => exact rhead_fig l k c w hlt hl hc h34 hlet
      | true =>
        obtain ⟨m, hm⟩ : ∃ m, wordLen (l.drop k) = m := ⟨_, rfl⟩
        have hmle : k + m ≤ l.length := by have := wordLen_le (l.drop k); simp at this; omega
        by_cases hend : k + m = l.length
        · exact rhead_end l k m c _ w hlt hl hc hlet hm rfl hend
        · have hlt2 : k + m < l.length := by omega
          obtain ⟨d, hd⟩ : ∃ d, l[k + m] = d := ⟨_, rfl⟩
          by_cases h40 : d.toNat = 40
          · obtain rfl : d = 40 := UInt8.toNat_inj.1 (by rw [h40]; rfl)
            exact rhead_attrs l k m c _ w hlt hl hc hlet hm rfl hlt2 hd
          · exact rhead_word l k m c _ w hlt hl hc hlet hm rfl d hlt2 hd h40
  · exact rhead_nil l k w (by omega)
theorem headP_text {l r : List UInt8} {h : Hd} (hh : headP l = some (h, r)) : (∃ p, l = p ++ r) ∧ r.length + 1 ≤ l.length := by
  unfold headP at hh
  cases hb : beginP l with
  | none => rw [hb] at hh; cases hh
  | some x =>
    obtain ⟨h', r'⟩ := x
    rw [hb] at hh
    simp only at hh
    have hlen := beginP_len hb
    have ht : ∃ p, l = p ++ r' := by
      rcases beginP_text hb with e | ⟨_, e⟩
      · exact ⟨_, e⟩
      · exact ⟨_, e⟩
    by_cases h0 : h'.k = 0
    · rw [if_pos h0] at hh
      simp only [Option.map_eq_some_iff, Prod.mk.injEq, Prod.exists] at hh
      obtain ⟨a, r2, ho, _, rfl⟩ := hh
      have h1 := optA_text ho
      have h2 := optA_len ho
      obtain ⟨p, e⟩ := ht
      exact ⟨⟨p ++ attrsQ a, by rw [e, h1, List.append_assoc]⟩, by omega⟩
    · rw [if_neg h0] at hh
      obtain ⟨rfl, rfl⟩ := Prod.mk.inj (Option.some.inj hh)
      exact ⟨ht, hlen⟩
theorem headP_suffix {l r : List UInt8} {h : Hd} {p : Nat} (hh : headP (l.drop p) = some (h, r)) (hp : p ≤ l.length) : r = l.drop (l.length - r.length) ∧ p + 1 ≤ l.length - r.length ∧ r.length ≤ l.length := by
  obtain ⟨⟨q, e⟩, hlen⟩ := headP_text hh
  obtain ⟨h1, h2, h3⟩ := suffix_drop e hp
  simp at hlen
  exact ⟨h1, by omega, h3⟩

/-- what readForest gives. -/
def FoRes (w : World) (l : List UInt8) (o : Option (Fo × List UInt8)) (e : Ending) (w' : World) : Prop :=
  ∃ v p f, e = .returned (.tuple #[v, .int .i64 p, .bool o.isSome]) ∧ (∀ g r, o = some (g, r) → f = g ∧ p = ((l.length - r.length : Nat) : Int)) ∧ LiesF w.heap.size w' v f ∧ Below w.heap.size w w'
theorem FoRes.no {w : World} {l : List UInt8} {e : Ending} {w' : World} {o : Option (Fo × List UInt8)} (ho : o = none) (he : e = .returned (.tuple #[.slice none 0 0, .int .i64 0, .bool false])) (hb : Below w.heap.size w w') : FoRes w l o e w' := by
  subst ho
  exact ⟨_, 0, .nil, he, fun g r h => (by cases h), .inl ⟨_, _, rfl, rfl⟩, hb⟩
theorem optK_yes {F : List UInt8 → Option (Fo × List UInt8)} (t : List UInt8) : optK F (123 :: t) = (F t).bind fun x => expP 125 x.1 x.2 := rfl
set_option maxRecDepth 100000 in
set_option maxHeartbeats 16000000 in
theorem rforest_step (F : List UInt8 → Option (Fo × List UInt8)) (o : Option (Fo × List UInt8)) (l : List UInt8) (k : Nat) (w : World) (hk : k ≤ l.length) (hl : l.length ≤ 89000)
    (HFL : ∀ t g u, F t = some (g, u) → u.length ≤ t.length) (HFS : TextF F)
    (HF : ∀ k' W, k < k' → k' ≤ l.length → Calls Tryz.prog 115 #[.string ⟨l.toArray⟩, .int .i64 k'] W (FoRes W l (F (l.drop k'))))
    (ho : o = (treeP F (l.drop k)).bind fun y => (restP (treeP F) y.2.length y.2).map fun z => (.cons y.1.1 y.1.2 z.1, z.2)) :
    Calls Tryz.prog 115 #[.string ⟨l.toArray⟩, .int .i64 k] w (FoRes w l o) := by
  obtain ⟨i0, hi, hz0, hz1, hz2⟩ := info_parts info_tree
  have HO := Lib.hid ho
  have HTL := Lib.hid (fun t x u ht => treeP_len (F := F) HFL (l := t) (x := x) (r := u) ht)
  have HFF := Lib.hid HF
  have HTX := Lib.hid HFS
  clear ho HF HFS HFL
  go_enter Tryz.func115, Tryz.ntmps115
  go_wp2_with fail
  go_loopw [1, 7] (fun i v wr => ∃ (f : Fo) (p g cap : Nat) (a : Option Addr) (cs : List Value) (N : List UInt8 → Nat), i = .int .i64 p ∧ v = .slice a f.len cap ∧ (a = none ∨ a = some ⟨g, 0, none⟩) ∧ k ≤ p ∧ p ≤ l.length ∧ f.len ≤ p ∧
    (∀ y u, treeP F (l.drop p) = some (y, u) → u.length ≤ N u) ∧ o = ((treeP F (l.drop p)).bind fun y => (restP (treeP F) (N y.2) y.2).map fun z => (f.app (.cons y.1.1 y.1.2 z.1), z.2)) ∧ Below w.heap.size w wr ∧
    wr.ownsRow w.heap.size 43 7 (.slice a f.len cap) f.len cs ∧ Stab w.heap.size g wr f cs) (fun i _ _ => l.length - (intOf i).toNat)
  case atStart => exact ⟨.nil, k, 0, 0, none, [], fun r => r.length, rfl, rfl, .inl rfl, Nat.le_refl _, hk, Nat.zero_le _, fun y u _ => Nat.le_refl _, HO.out, Below.refl _ _, World.ownsRow_nil _ _ _ _, fun W _ _ => rfl⟩
  case round =>
    obtain ⟨f, p, g, cap, a, cs, N, rfl, rfl, haa, hkp, hp, hfp, hN, hq, hbw, hown, hst⟩ := hrel
    have HAA := Lib.hid haa
    have HN := Lib.hid hN
    have HQ := Lib.hid hq
    have BW := Lib.hid hbw
    have OWN := Lib.hid hown
    have ST := Lib.hid hst
    have hsr := hbw.size
    have RH := Lib.hid (fun W => rhead_any l p W hp (by omega))
    have hlen := hown.lt
    clear haa hN hq hbw hown hst
    have HG := Lib.hid hlen
    clear hlen
    go_wp2_with fail
    cases hh : headP (l.drop p) with
    | none =>
      have R0 := Lib.hid (fun W => by have := RH.out W; rw [hh] at this; exact this)
      have HZ := Lib.hid (HQ.out.trans (by rw [treeP_head, hh] <;> rfl))
      clear hh RH
      refine (R0.out _).mono ?_
      rintro e w1 ⟨h, aa, ca, p', rfl, _, _, hb1⟩
      unfold hdV
      have B1 := BW.out.trans (hb1.mono hsr)
      have hs1 := hb1.size
      go_wp2_with fail
      go_ret3
      exact FoRes.no HZ.out rfl (by ((repeat' (first | exact Below.refl _ _ | assumption | refine Below.setCell ?_ ?_ _ | refine bdrewN ?_ _ | refine Below.drew ?_ | refine Below.alloc ?_ ?_ _ | refine bbehind ?_ (by assumption) ?_)); all_goals first | (simp; done) | (simp; omega) | omega))
    | some x =>
      obtain ⟨hd, r⟩ := x
      have R0 := Lib.hid (fun W => by have := RH.out W; rw [hh] at this; exact this)
      obtain ⟨hr, hpq, hrl⟩ := headP_suffix hh hp
      obtain ⟨q, hq⟩ : ∃ q, l.length - r.length = q := ⟨_, rfl⟩
      rw [hq] at hr hpq
      have hql : q ≤ l.length := by omega
      subst hr
      refine (R0.out _).mono ?_
      rintro e w1 ⟨h, aa, ca, p', rfl, hpx, hfa, hb1⟩
      obtain ⟨rfl, hp'⟩ := hpx _ _ rfl
      obtain rfl : p' = (q : Int) := by rw [hp', hq]
      have HH := Lib.hid hh
      have HFA := Lib.hid hfa
      have HB1 := Lib.hid hb1
      have hs1 := hb1.size
      clear hh hpx hfa hb1 RH R0 hp' hq hrl
      unfold hdV
      go_upto_region 3 with fail
      have kh := World.alloc_heap_new w1 (.cells #[.int .i64 h.k, .string ⟨h.l.toArray⟩, .slice aa h.ats.length ca, .int .i64 h.n, .int .i64 h.d, .string ⟨h.x.toArray⟩] 27)
      have Bh := Lib.hid (show Below w1.heap.size w1 (w1.alloc (.cells #[.int .i64 h.k, .string ⟨h.l.toArray⟩, .slice aa h.ats.length ca, .int .i64 h.n, .int .i64 h.d, .string ⟨h.x.toArray⟩] 27)) from (Below.refl _ _).alloc (Nat.le_refl _) _)
      have hsh : (w1.alloc (.cells #[.int .i64 h.k, .string ⟨h.l.toArray⟩, .slice aa h.ats.length ca, .int .i64 h.n, .int .i64 h.d, .string ⟨h.x.toArray⟩] 27)).heap.size = w1.heap.size + 1 := by simp
      generalize w1.alloc (.cells #[.int .i64 h.k, .string ⟨h.l.toArray⟩, .slice aa h.ats.length ca, .int .i64 h.n, .int .i64 h.d, .string ⟨h.x.toArray⟩] 27) = W1 at *
      have d0 : W1.cell? ⟨w1.heap.size, 0, none⟩ = some (.int .i64 h.k) := cell_of_block kh rfl
      have d1 : W1.cell? ⟨w1.heap.size, 1, none⟩ = some (.string ⟨h.l.toArray⟩) := cell_of_block kh rfl
      have d2 : W1.cell? ⟨w1.heap.size, 2, none⟩ = some (.slice aa h.ats.length ca) := cell_of_block kh rfl
      have d3 : W1.cell? ⟨w1.heap.size, 3, none⟩ = some (.int .i64 h.n) := cell_of_block kh rfl
      have d4 : W1.cell? ⟨w1.heap.size, 4, none⟩ = some (.int .i64 h.d) := cell_of_block kh rfl
      have d5 : W1.cell? ⟨w1.heap.size, 5, none⟩ = some (.string ⟨h.x.toArray⟩) := cell_of_block kh rfl
      go_upto_region 6 with fail
      have kt := World.alloc_heap_new W1 (.cells #[.int .i64 h.k, .string ⟨h.l.toArray⟩, .slice aa h.ats.length ca, .int .i64 h.n, .int .i64 h.d, .string ⟨h.x.toArray⟩, .slice none 0 0] 43)
      have kh2 := (Below.heap_alloc W1 (.cells #[.int .i64 h.k, .string ⟨h.l.toArray⟩, .slice aa h.ats.length ca, .int .i64 h.n, .int .i64 h.d, .string ⟨h.x.toArray⟩, .slice none 0 0] 43) w1.heap.size (by omega)).trans kh
      have Bt := Lib.hid (Bh.out.alloc Bh.out.size (.cells #[.int .i64 h.k, .string ⟨h.l.toArray⟩, .slice aa h.ats.length ca, .int .i64 h.n, .int .i64 h.d, .string ⟨h.x.toArray⟩, .slice none 0 0] 43))
      have hst : w1.heap.size + 2 ≤ (W1.alloc (.cells #[.int .i64 h.k, .string ⟨h.l.toArray⟩, .slice aa h.ats.length ca, .int .i64 h.n, .int .i64 h.d, .string ⟨h.x.toArray⟩, .slice none 0 0] 43)).heap.size := by simp; omega
      generalize W1.alloc (.cells #[.int .i64 h.k, .string ⟨h.l.toArray⟩, .slice aa h.ats.length ca, .int .i64 h.n, .int .i64 h.d, .string ⟨h.x.toArray⟩, .slice none 0 0] 43) = W at *
      rw [hsh] at kt
      try rw [hsh]
      have KT := Lib.hid kt
      have kd : W.cell? ⟨w1.heap.size, 0, none⟩ = some (.int .i64 h.k) := cell_of_block kh2 rfl
      have HX := Lib.hid (show ∀ y, (if h.k = 0 then (optK F (l.drop q)).map (fun x => ((h, x.1), x.2)) else some ((h, .nil), l.drop q)) = y → treeP F (l.drop p) = y from fun y hy => by rw [treeP_head, HH.out]; exact hy)
      have HK := Lib.hid (fun W => HFF.out (q + 1) W (by omega))
      clear d0 d1 d2 d3 d4 d5 kh kh2 kt Bh HH
      by_cases hk0 : h.k = 0
      rotate_left
      · have bk : (h.k == 0) = false := by simpa using hk0
        have HTR := Lib.hid (HX.out _ (if_neg hk0))
        clear hk0 HX HK
        have B0 : Below wr.heap.size wr W := HB1.out.trans (Bt.out.mono hs1)
        have F0 := attrsF_keeps HFA.out (Keeps.of_below Bt.out : Keeps wr.heap.size w1 W)
        have K0 := KT.out
        have L0 : LiesF wr.heap.size W (.slice none Fo.nil.len 0) .nil := .inl ⟨_, _, rfl, rfl⟩
        go_upto_region 11 with fail
        try clear HX1 hc b123 b123'
        have OW := Lib.hid (owns_below OWN.out B0)
        have SW := Lib.hid (ST.out.next (W1 := W) (g' := g) B0.size (fun k o _ hk _ => World.cell?_of_block (B0.block k hk)) (.inl rfl))
        have FW := Lib.hid F0
        have LW := Lib.hid L0
        have BF := Lib.hid (BW.out.trans (B0.mono hsr))
        have HR := Lib.hid (HQ.out.trans (show _ = (restP (treeP F) (N (l.drop q)) (l.drop q)).map (fun z => (f.app (.cons h Fo.nil z.1), z.2)) by rw [HTR.out] <;> rfl))
        have hNq := HN.out _ _ HTR.out
        obtain ⟨M, hM⟩ : ∃ M, N (l.drop q) = M := ⟨_, rfl⟩
        rw [hM] at hNq HR
        have hsW := B0.size
        have t0 : W.cell? ⟨w1.heap.size + 1, 0, none⟩ = some (.int .i64 h.k) := cell_of_block K0 rfl
        have t1 : W.cell? ⟨w1.heap.size + 1, 1, none⟩ = some (.string ⟨h.l.toArray⟩) := cell_of_block K0 rfl
        have t2 : W.cell? ⟨w1.heap.size + 1, 2, none⟩ = some (.slice aa h.ats.length ca) := cell_of_block K0 rfl
        have t3 : W.cell? ⟨w1.heap.size + 1, 3, none⟩ = some (.int .i64 h.n) := cell_of_block K0 rfl
        have t4 : W.cell? ⟨w1.heap.size + 1, 4, none⟩ = some (.int .i64 h.d) := cell_of_block K0 rfl
        have t5 : W.cell? ⟨w1.heap.size + 1, 5, none⟩ = some (.string ⟨h.x.toArray⟩) := cell_of_block K0 rfl
        have t6 : W.cell? ⟨w1.heap.size + 1, 6, none⟩ = some (.slice none 0 0) := cell_of_block K0 rfl
        clear B0 F0 L0 hM HTR
        go_wp2_with (at_builtin; refine wpList_append_own_at _ rfl _ _ 28 rfl w.heap.size 43 i0 _ 7 104 Tryz.underlying28 hi hz0 hz1 hz2 rfl (by decide) (.slice a f.len cap) f.len cs rfl (OW.out.alloc _) ⟨W.heap.size, 0, none⟩ 1 1 [.int .i64 h.k, .string ⟨h.l.toArray⟩, .slice aa h.ats.length ca, .int .i64 h.n, .int .i64 h.d, .string ⟨h.x.toArray⟩, .slice none 0 0] rfl rfl ?c1y1 ?c2y1 ?c3y1 ?c4y1 ?c5y1 ?stopy1)
        case c1y1 =>
          intro j u hj
          have hnew := World.alloc_heap_new W (.cells #[.int .i64 h.k, .string ⟨h.l.toArray⟩, .slice aa h.ats.length ca, .int .i64 h.n, .int .i64 h.d, .string ⟨h.x.toArray⟩, .slice none 0 0] 43)
          rw [Go.WideShapes.add_plain]
          exact cell_of_block hnew (by simpa using hj)
        case c2y1 => intro u hu; simp at hu; rcases hu with rfl | rfl | rfl | rfl | rfl | rfl | rfl <;> rfl
        case c3y1 => unfold maxLen; omega
        case c4y1 => omega
        case c5y1 => have := BF.out.size; simp; omega
        case stopy1 =>
          intro v' w5 hown' hgrow _ hat
          obtain ⟨g', cap', rfl⟩ : ∃ g cap, v' = .slice (some ⟨g, 0, none⟩) (f.len + 1) cap := by
            rcases hown'.2 with ⟨_, h0⟩ | ⟨g, cap, cur, hv, _⟩
            · omega
            · exact ⟨g, cap, hv⟩
          have hob : ∀ k, (Value.slice a f.len cap).ownBlock = some k → k = g ∧ k < wr.heap.size := by
            intro k e
            refine ⟨?_, (HG.out k e).2⟩
            rcases HAA.out with rfl | rfl
            · cases e
            · simpa [Value.ownBlock] using e.symm
          have hat2 : (g' = g ∧ g' < wr.heap.size) ∨ g' = W.heap.size + 1 := by
            rcases hat with e | e
            · exact .inl (hob g' (e.symm.trans rfl))
            · exact .inr (by simpa [Value.ownBlock] using e)
          have hs5 := hgrow.size
          simp at hs5
          have hcell : ∀ W' : World, w5.heap.size ≤ W'.heap.size → (∀ k o, w.heap.size ≤ k → k < w5.heap.size → k ≠ g' → W'.cell? ⟨k, o, none⟩ = w5.cell? ⟨k, o, none⟩) → ∀ k o, w.heap.size ≤ k → k < W.heap.size → k ≠ g → W'.cell? ⟨k, o, none⟩ = W.cell? ⟨k, o, none⟩ := by
            intro W' hW hc k o h1 h2 h3
            refine (hc k o h1 (by omega) (by omega)).trans (World.cell?_of_block ?_)
            rw [hgrow.block k (by simp; omega) (fun e => h3 (hob k e.symm).1), Below.heap_alloc _ _ k h2]
          have hcell2 : ∀ W' : World, w5.heap.size ≤ W'.heap.size → (∀ k o, w.heap.size ≤ k → k < w5.heap.size → k ≠ g' → W'.cell? ⟨k, o, none⟩ = w5.cell? ⟨k, o, none⟩) → Keeps wr.heap.size W W' := by
            intro W' hW hc
            refine ⟨by omega, fun k o h1 h2 => ?_⟩
            refine (hc k o (by omega) (by omega) (by omega)).trans (World.cell?_of_block ?_)
            rw [hgrow.block k (by simp; omega) (fun e => by have := (hob k e.symm).2; omega), Below.heap_alloc _ _ k h2]
          have S5 := Lib.hid (show Stab w.heap.size g' w5 (f.app (.cons h Fo.nil .nil)) (cs ++ treeCells h aa ca none (Fo.nil).len 0) by
            intro W' hW hc
            have hk := hcell2 W' hW hc
            exact rowL_snoc (attrsF_mono (by omega) (attrsF_keeps FW.out hk)) (liesF_mono (by omega) (liesF_keeps LW.out hk)) f cs (SW.out W' (by omega) (hcell W' hW hc)))
          have O5 := Lib.hid (show w5.ownsRow w.heap.size 43 7 (.slice (some ⟨g', 0, none⟩) (f.len + 1) cap') (f.app (.cons h Fo.nil .nil)).len (cs ++ treeCells h aa ca none (Fo.nil).len 0) by
            rw [app_len]; exact hown')
          have B5 := Lib.hid (((BF.out.alloc BF.out.size _).grown hgrow (by have := BF.out.size; simp; omega) (fun k hk => (HG.out k hk).1) : Below w.heap.size w w5))
          have HAE := Lib.hid (show LiesF w.heap.size w5 (.slice (some ⟨g', 0, none⟩) (f.len + 1) cap') (f.app (.cons h Fo.nil .nil)) by
            have hrow := S5.out w5 (Nat.le_refl _) (fun _ _ _ _ _ => rfl)
            obtain ⟨_, h2⟩ := hown'
            rcases h2 with ⟨h3, _⟩ | ⟨g1, cap1, cur, h3, hb1, hg1, hn1, hc1, _, _⟩
            · cases h3
            · cases h3
              refine .inr ⟨g', 0, cap', by rw [app_len], by rw [app_len]; exact hn1, by rw [app_len]; omega, hb1, (Array.getElem?_eq_some_iff.1 hg1).1, rowL_row _ _ 0 hrow fun j u hj => by
                have := O5.out.cells (g := g') rfl j u hj
                rw [Go.WideShapes.add_plain] at this
                simpa using this⟩)
          clear hown' hgrow hat hcell hcell2 hob hat2
          by_cases hq2 : q < l.length
          rotate_left
          · have HE := Lib.hid (HR.out.trans (show _ = some (f.app (.cons h Fo.nil .nil), l.drop q) by rw [restP_stop (by rw [show l.drop (q) = [] by rw [List.drop_eq_nil_iff]; omega]; simp)]; simp))
            have dq2 : decide ((l.length : Int) ≤ (q : Int)) = true := by simp; omega
            have hlq : l.length - (l.drop (q)).length = q := by simp; omega
            go_wp2_with fail
            go_ret3
            exact ⟨_, _, f.app (.cons h Fo.nil .nil), by rw [HE.out] <;> rfl, fun g r hgr => (by rw [HE.out] at hgr; cases hgr; exact ⟨rfl, by rw [hlq] <;> simp⟩), HAE.out, B5.out⟩
          have dq2 : decide ((l.length : Int) ≤ (q : Int)) = false := by simp; omega
          obtain ⟨dd, hdd⟩ : ∃ dd, l[q] = dd := ⟨_, rfl⟩
          have HX7 := getD_at (d := 0) hq2 hdd
          by_cases h32 : dd.toNat = 32
          · obtain rfl : dd = 32 := UInt8.toNat_inj.1 (by rw [h32]; rfl)
            have HD := drop_at hq2 hdd
            rw [HD] at hNq
            obtain ⟨M', rfl⟩ : ∃ M', M = M' + 1 := ⟨M - 1, by simp at hNq; omega⟩
            have HQ5 := Lib.hid (HR.out.trans (show _ = (treeP F (l.drop (q + 1))).bind fun y => (restP (treeP F) M' y.2).map fun z => ((f.app (.cons h Fo.nil .nil)).app (.cons y.1.1 y.1.2 z.1), z.2) by
              rw [HD, restP_more]
              cases treeP F (l.drop (q + 1)) with
              | none => rfl
              | some y => simp only [Option.bind_some]; cases restP (treeP F) M' y.2 <;> simp [app_cons]))
            have HN5 := Lib.hid (show ∀ y u, treeP F (l.drop (q + 1)) = some (y, u) → u.length ≤ M' from fun y u hy => by
              have h1 := HTL.out _ _ _ hy
              simp at hNq h1
              omega)
            clear HD hNq
            go_wp2_with fail
            go_roundw
            case rel => exact ⟨f.app (.cons h Fo.nil .nil), q + 1, g', cap', some ⟨g', 0, none⟩, cs ++ treeCells h aa ca none (Fo.nil).len 0, fun _ => M', by go_num, by rw [app_len], .inr rfl, by omega, by omega, by rw [app_len]; omega, HN5.out, HQ5.out, B5.out, by rw [← app_len h Fo.nil f] at O5; exact O5.out, S5.out⟩
            case measure => simp [intOf]; omega
          · have b32 : ((dd.toNat : Int) != 32) = true := by simp; omega
            have b32' : (dd.toNat == 32) = false := by simpa using h32
            have HE := Lib.hid (HR.out.trans (show _ = some (f.app (.cons h Fo.nil .nil), l.drop q) by rw [restP_stop (by rw [drop_at hq2 hdd]; simp; intro e; exact h32 (by rw [e]; rfl))]; simp))
            have hlq : l.length - (l.drop (q)).length = q := by simp; omega
            clear h32
            go_wp2_with fail
            go_ret3
            exact ⟨_, _, f.app (.cons h Fo.nil .nil), by rw [HE.out] <;> rfl, fun g r hgr => (by rw [HE.out] at hgr; cases hgr; exact ⟨rfl, by rw [hlq] <;> simp⟩), HAE.out, B5.out⟩
      have bk : (h.k == 0) = true := by simpa using hk0
      by_cases hq1 : q < l.length
      rotate_left
      · have dq : decide (q < l.length) = false := by simpa using hq1
        have HTR := Lib.hid (HX.out _ ((if_pos hk0).trans (show _ = some ((h, .nil), l.drop q) by rw [optK_no (by rw [show l.drop q = [] by rw [List.drop_eq_nil_iff]; omega]; simp)]; rfl)))
        clear hk0 HX HK
        have B0 : Below wr.heap.size wr W := HB1.out.trans (Bt.out.mono hs1)
        have F0 := attrsF_keeps HFA.out (Keeps.of_below Bt.out : Keeps wr.heap.size w1 W)
        have K0 := KT.out
        have L0 : LiesF wr.heap.size W (.slice none Fo.nil.len 0) .nil := .inl ⟨_, _, rfl, rfl⟩
        go_upto_region 11 with fail
        try clear HX1 hc b123 b123'
        have OW := Lib.hid (owns_below OWN.out B0)
        have SW := Lib.hid (ST.out.next (W1 := W) (g' := g) B0.size (fun k o _ hk _ => World.cell?_of_block (B0.block k hk)) (.inl rfl))
        have FW := Lib.hid F0
        have LW := Lib.hid L0
        have BF := Lib.hid (BW.out.trans (B0.mono hsr))
        have HR := Lib.hid (HQ.out.trans (show _ = (restP (treeP F) (N (l.drop q)) (l.drop q)).map (fun z => (f.app (.cons h Fo.nil z.1), z.2)) by rw [HTR.out] <;> rfl))
        have hNq := HN.out _ _ HTR.out
        obtain ⟨M, hM⟩ : ∃ M, N (l.drop q) = M := ⟨_, rfl⟩
        rw [hM] at hNq HR
        have hsW := B0.size
        have t0 : W.cell? ⟨w1.heap.size + 1, 0, none⟩ = some (.int .i64 h.k) := cell_of_block K0 rfl
        have t1 : W.cell? ⟨w1.heap.size + 1, 1, none⟩ = some (.string ⟨h.l.toArray⟩) := cell_of_block K0 rfl
        have t2 : W.cell? ⟨w1.heap.size + 1, 2, none⟩ = some (.slice aa h.ats.length ca) := cell_of_block K0 rfl
        have t3 : W.cell? ⟨w1.heap.size + 1, 3, none⟩ = some (.int .i64 h.n) := cell_of_block K0 rfl
        have t4 : W.cell? ⟨w1.heap.size + 1, 4, none⟩ = some (.int .i64 h.d) := cell_of_block K0 rfl
        have t5 : W.cell? ⟨w1.heap.size + 1, 5, none⟩ = some (.string ⟨h.x.toArray⟩) := cell_of_block K0 rfl
        have t6 : W.cell? ⟨w1.heap.size + 1, 6, none⟩ = some (.slice none 0 0) := cell_of_block K0 rfl
        clear B0 F0 L0 hM HTR
        go_wp2_with (at_builtin; refine wpList_append_own_at _ rfl _ _ 28 rfl w.heap.size 43 i0 _ 7 104 Tryz.underlying28 hi hz0 hz1 hz2 rfl (by decide) (.slice a f.len cap) f.len cs rfl (OW.out.alloc _) ⟨W.heap.size, 0, none⟩ 1 1 [.int .i64 h.k, .string ⟨h.l.toArray⟩, .slice aa h.ats.length ca, .int .i64 h.n, .int .i64 h.d, .string ⟨h.x.toArray⟩, .slice none 0 0] rfl rfl ?c1y2 ?c2y2 ?c3y2 ?c4y2 ?c5y2 ?stopy2)
        case c1y2 =>
          intro j u hj
          have hnew := World.alloc_heap_new W (.cells #[.int .i64 h.k, .string ⟨h.l.toArray⟩, .slice aa h.ats.length ca, .int .i64 h.n, .int .i64 h.d, .string ⟨h.x.toArray⟩, .slice none 0 0] 43)
          rw [Go.WideShapes.add_plain]
          exact cell_of_block hnew (by simpa using hj)
        case c2y2 => intro u hu; simp at hu; rcases hu with rfl | rfl | rfl | rfl | rfl | rfl | rfl <;> rfl
        case c3y2 => unfold maxLen; omega
        case c4y2 => omega
        case c5y2 => have := BF.out.size; simp; omega
        case stopy2 =>
          intro v' w5 hown' hgrow _ hat
          obtain ⟨g', cap', rfl⟩ : ∃ g cap, v' = .slice (some ⟨g, 0, none⟩) (f.len + 1) cap := by
            rcases hown'.2 with ⟨_, h0⟩ | ⟨g, cap, cur, hv, _⟩
            · omega
            · exact ⟨g, cap, hv⟩
          have hob : ∀ k, (Value.slice a f.len cap).ownBlock = some k → k = g ∧ k < wr.heap.size := by
            intro k e
            refine ⟨?_, (HG.out k e).2⟩
            rcases HAA.out with rfl | rfl
            · cases e
            · simpa [Value.ownBlock] using e.symm
          have hat2 : (g' = g ∧ g' < wr.heap.size) ∨ g' = W.heap.size + 1 := by
            rcases hat with e | e
            · exact .inl (hob g' (e.symm.trans rfl))
            · exact .inr (by simpa [Value.ownBlock] using e)
          have hs5 := hgrow.size
          simp at hs5
          have hcell : ∀ W' : World, w5.heap.size ≤ W'.heap.size → (∀ k o, w.heap.size ≤ k → k < w5.heap.size → k ≠ g' → W'.cell? ⟨k, o, none⟩ = w5.cell? ⟨k, o, none⟩) → ∀ k o, w.heap.size ≤ k → k < W.heap.size → k ≠ g → W'.cell? ⟨k, o, none⟩ = W.cell? ⟨k, o, none⟩ := by
            intro W' hW hc k o h1 h2 h3
            refine (hc k o h1 (by omega) (by omega)).trans (World.cell?_of_block ?_)
            rw [hgrow.block k (by simp; omega) (fun e => h3 (hob k e.symm).1), Below.heap_alloc _ _ k h2]
          have hcell2 : ∀ W' : World, w5.heap.size ≤ W'.heap.size → (∀ k o, w.heap.size ≤ k → k < w5.heap.size → k ≠ g' → W'.cell? ⟨k, o, none⟩ = w5.cell? ⟨k, o, none⟩) → Keeps wr.heap.size W W' := by
            intro W' hW hc
            refine ⟨by omega, fun k o h1 h2 => ?_⟩
            refine (hc k o (by omega) (by omega) (by omega)).trans (World.cell?_of_block ?_)
            rw [hgrow.block k (by simp; omega) (fun e => by have := (hob k e.symm).2; omega), Below.heap_alloc _ _ k h2]
          have S5 := Lib.hid (show Stab w.heap.size g' w5 (f.app (.cons h Fo.nil .nil)) (cs ++ treeCells h aa ca none (Fo.nil).len 0) by
            intro W' hW hc
            have hk := hcell2 W' hW hc
            exact rowL_snoc (attrsF_mono (by omega) (attrsF_keeps FW.out hk)) (liesF_mono (by omega) (liesF_keeps LW.out hk)) f cs (SW.out W' (by omega) (hcell W' hW hc)))
          have O5 := Lib.hid (show w5.ownsRow w.heap.size 43 7 (.slice (some ⟨g', 0, none⟩) (f.len + 1) cap') (f.app (.cons h Fo.nil .nil)).len (cs ++ treeCells h aa ca none (Fo.nil).len 0) by
            rw [app_len]; exact hown')
          have B5 := Lib.hid (((BF.out.alloc BF.out.size _).grown hgrow (by have := BF.out.size; simp; omega) (fun k hk => (HG.out k hk).1) : Below w.heap.size w w5))
          have HAE := Lib.hid (show LiesF w.heap.size w5 (.slice (some ⟨g', 0, none⟩) (f.len + 1) cap') (f.app (.cons h Fo.nil .nil)) by
            have hrow := S5.out w5 (Nat.le_refl _) (fun _ _ _ _ _ => rfl)
            obtain ⟨_, h2⟩ := hown'
            rcases h2 with ⟨h3, _⟩ | ⟨g1, cap1, cur, h3, hb1, hg1, hn1, hc1, _, _⟩
            · cases h3
            · cases h3
              refine .inr ⟨g', 0, cap', by rw [app_len], by rw [app_len]; exact hn1, by rw [app_len]; omega, hb1, (Array.getElem?_eq_some_iff.1 hg1).1, rowL_row _ _ 0 hrow fun j u hj => by
                have := O5.out.cells (g := g') rfl j u hj
                rw [Go.WideShapes.add_plain] at this
                simpa using this⟩)
          clear hown' hgrow hat hcell hcell2 hob hat2
          by_cases hq2 : q < l.length
          rotate_left
          · have HE := Lib.hid (HR.out.trans (show _ = some (f.app (.cons h Fo.nil .nil), l.drop q) by rw [restP_stop (by rw [show l.drop (q) = [] by rw [List.drop_eq_nil_iff]; omega]; simp)]; simp))
            have dq2 : decide ((l.length : Int) ≤ (q : Int)) = true := by simp; omega
            have hlq : l.length - (l.drop (q)).length = q := by simp; omega
            go_wp2_with fail
            go_ret3
            exact ⟨_, _, f.app (.cons h Fo.nil .nil), by rw [HE.out] <;> rfl, fun g r hgr => (by rw [HE.out] at hgr; cases hgr; exact ⟨rfl, by rw [hlq] <;> simp⟩), HAE.out, B5.out⟩
          exact absurd hq2 hq1
      have dq : decide (q < l.length) = true := by simpa using hq1
      obtain ⟨c, hc⟩ : ∃ c, l[q] = c := ⟨_, rfl⟩
      by_cases h123 : c.toNat = 123
      rotate_left
      · have b123 : ((c.toNat : Int) == 123) = false := by simp; omega
        have b123' : (c.toNat == 123) = false := by simpa using h123
        have HX1 := getD_at (d := 0) hq1 hc
        have HTR := Lib.hid (HX.out _ ((if_pos hk0).trans (show _ = some ((h, .nil), l.drop q) by rw [optK_no (by rw [drop_at hq1 hc]; simp; intro e; exact h123 (by rw [e]; rfl))]; rfl)))
        clear hk0 HX HK h123
        have B0 : Below wr.heap.size wr W := HB1.out.trans (Bt.out.mono hs1)
        have F0 := attrsF_keeps HFA.out (Keeps.of_below Bt.out : Keeps wr.heap.size w1 W)
        have K0 := KT.out
        have L0 : LiesF wr.heap.size W (.slice none Fo.nil.len 0) .nil := .inl ⟨_, _, rfl, rfl⟩
        go_upto_region 11 with fail
        try clear HX1 hc b123 b123'
        have OW := Lib.hid (owns_below OWN.out B0)
        have SW := Lib.hid (ST.out.next (W1 := W) (g' := g) B0.size (fun k o _ hk _ => World.cell?_of_block (B0.block k hk)) (.inl rfl))
        have FW := Lib.hid F0
        have LW := Lib.hid L0
        have BF := Lib.hid (BW.out.trans (B0.mono hsr))
        have HR := Lib.hid (HQ.out.trans (show _ = (restP (treeP F) (N (l.drop q)) (l.drop q)).map (fun z => (f.app (.cons h Fo.nil z.1), z.2)) by rw [HTR.out] <;> rfl))
        have hNq := HN.out _ _ HTR.out
        obtain ⟨M, hM⟩ : ∃ M, N (l.drop q) = M := ⟨_, rfl⟩
        rw [hM] at hNq HR
        have hsW := B0.size
        have t0 : W.cell? ⟨w1.heap.size + 1, 0, none⟩ = some (.int .i64 h.k) := cell_of_block K0 rfl
        have t1 : W.cell? ⟨w1.heap.size + 1, 1, none⟩ = some (.string ⟨h.l.toArray⟩) := cell_of_block K0 rfl
        have t2 : W.cell? ⟨w1.heap.size + 1, 2, none⟩ = some (.slice aa h.ats.length ca) := cell_of_block K0 rfl
        have t3 : W.cell? ⟨w1.heap.size + 1, 3, none⟩ = some (.int .i64 h.n) := cell_of_block K0 rfl
        have t4 : W.cell? ⟨w1.heap.size + 1, 4, none⟩ = some (.int .i64 h.d) := cell_of_block K0 rfl
        have t5 : W.cell? ⟨w1.heap.size + 1, 5, none⟩ = some (.string ⟨h.x.toArray⟩) := cell_of_block K0 rfl
        have t6 : W.cell? ⟨w1.heap.size + 1, 6, none⟩ = some (.slice none 0 0) := cell_of_block K0 rfl
        clear B0 F0 L0 hM HTR
        go_wp2_with (at_builtin; refine wpList_append_own_at _ rfl _ _ 28 rfl w.heap.size 43 i0 _ 7 104 Tryz.underlying28 hi hz0 hz1 hz2 rfl (by decide) (.slice a f.len cap) f.len cs rfl (OW.out.alloc _) ⟨W.heap.size, 0, none⟩ 1 1 [.int .i64 h.k, .string ⟨h.l.toArray⟩, .slice aa h.ats.length ca, .int .i64 h.n, .int .i64 h.d, .string ⟨h.x.toArray⟩, .slice none 0 0] rfl rfl ?c1y3 ?c2y3 ?c3y3 ?c4y3 ?c5y3 ?stopy3)
        case c1y3 =>
          intro j u hj
          have hnew := World.alloc_heap_new W (.cells #[.int .i64 h.k, .string ⟨h.l.toArray⟩, .slice aa h.ats.length ca, .int .i64 h.n, .int .i64 h.d, .string ⟨h.x.toArray⟩, .slice none 0 0] 43)
          rw [Go.WideShapes.add_plain]
          exact cell_of_block hnew (by simpa using hj)
        case c2y3 => intro u hu; simp at hu; rcases hu with rfl | rfl | rfl | rfl | rfl | rfl | rfl <;> rfl
        case c3y3 => unfold maxLen; omega
        case c4y3 => omega
        case c5y3 => have := BF.out.size; simp; omega
        case stopy3 =>
          intro v' w5 hown' hgrow _ hat
          obtain ⟨g', cap', rfl⟩ : ∃ g cap, v' = .slice (some ⟨g, 0, none⟩) (f.len + 1) cap := by
            rcases hown'.2 with ⟨_, h0⟩ | ⟨g, cap, cur, hv, _⟩
            · omega
            · exact ⟨g, cap, hv⟩
          have hob : ∀ k, (Value.slice a f.len cap).ownBlock = some k → k = g ∧ k < wr.heap.size := by
            intro k e
            refine ⟨?_, (HG.out k e).2⟩
            rcases HAA.out with rfl | rfl
            · cases e
            · simpa [Value.ownBlock] using e.symm
          have hat2 : (g' = g ∧ g' < wr.heap.size) ∨ g' = W.heap.size + 1 := by
            rcases hat with e | e
            · exact .inl (hob g' (e.symm.trans rfl))
            · exact .inr (by simpa [Value.ownBlock] using e)
          have hs5 := hgrow.size
          simp at hs5
          have hcell : ∀ W' : World, w5.heap.size ≤ W'.heap.size → (∀ k o, w.heap.size ≤ k → k < w5.heap.size → k ≠ g' → W'.cell? ⟨k, o, none⟩ = w5.cell? ⟨k, o, none⟩) → ∀ k o, w.heap.size ≤ k → k < W.heap.size → k ≠ g → W'.cell? ⟨k, o, none⟩ = W.cell? ⟨k, o, none⟩ := by
            intro W' hW hc k o h1 h2 h3
            refine (hc k o h1 (by omega) (by omega)).trans (World.cell?_of_block ?_)
            rw [hgrow.block k (by simp; omega) (fun e => h3 (hob k e.symm).1), Below.heap_alloc _ _ k h2]
          have hcell2 : ∀ W' : World, w5.heap.size ≤ W'.heap.size → (∀ k o, w.heap.size ≤ k → k < w5.heap.size → k ≠ g' → W'.cell? ⟨k, o, none⟩ = w5.cell? ⟨k, o, none⟩) → Keeps wr.heap.size W W' := by
            intro W' hW hc
            refine ⟨by omega, fun k o h1 h2 => ?_⟩
            refine (hc k o (by omega) (by omega) (by omega)).trans (World.cell?_of_block ?_)
            rw [hgrow.block k (by simp; omega) (fun e => by have := (hob k e.symm).2; omega), Below.heap_alloc _ _ k h2]
          have S5 := Lib.hid (show Stab w.heap.size g' w5 (f.app (.cons h Fo.nil .nil)) (cs ++ treeCells h aa ca none (Fo.nil).len 0) by
            intro W' hW hc
            have hk := hcell2 W' hW hc
            exact rowL_snoc (attrsF_mono (by omega) (attrsF_keeps FW.out hk)) (liesF_mono (by omega) (liesF_keeps LW.out hk)) f cs (SW.out W' (by omega) (hcell W' hW hc)))
          have O5 := Lib.hid (show w5.ownsRow w.heap.size 43 7 (.slice (some ⟨g', 0, none⟩) (f.len + 1) cap') (f.app (.cons h Fo.nil .nil)).len (cs ++ treeCells h aa ca none (Fo.nil).len 0) by
            rw [app_len]; exact hown')
          have B5 := Lib.hid (((BF.out.alloc BF.out.size _).grown hgrow (by have := BF.out.size; simp; omega) (fun k hk => (HG.out k hk).1) : Below w.heap.size w w5))
          have HAE := Lib.hid (show LiesF w.heap.size w5 (.slice (some ⟨g', 0, none⟩) (f.len + 1) cap') (f.app (.cons h Fo.nil .nil)) by
            have hrow := S5.out w5 (Nat.le_refl _) (fun _ _ _ _ _ => rfl)
            obtain ⟨_, h2⟩ := hown'
            rcases h2 with ⟨h3, _⟩ | ⟨g1, cap1, cur, h3, hb1, hg1, hn1, hc1, _, _⟩
            · cases h3
            · cases h3
              refine .inr ⟨g', 0, cap', by rw [app_len], by rw [app_len]; exact hn1, by rw [app_len]; omega, hb1, (Array.getElem?_eq_some_iff.1 hg1).1, rowL_row _ _ 0 hrow fun j u hj => by
                have := O5.out.cells (g := g') rfl j u hj
                rw [Go.WideShapes.add_plain] at this
                simpa using this⟩)
          clear hown' hgrow hat hcell hcell2 hob hat2
          by_cases hq2 : q < l.length
          rotate_left
          · exact absurd hq1 hq2
          have dq2 : decide ((l.length : Int) ≤ (q : Int)) = false := by simp; omega
          obtain ⟨dd, hdd⟩ : ∃ dd, l[q] = dd := ⟨_, rfl⟩
          have HX7 := getD_at (d := 0) hq2 hdd
          by_cases h32 : dd.toNat = 32
          · obtain rfl : dd = 32 := UInt8.toNat_inj.1 (by rw [h32]; rfl)
            have HD := drop_at hq2 hdd
            rw [HD] at hNq
            obtain ⟨M', rfl⟩ : ∃ M', M = M' + 1 := ⟨M - 1, by simp at hNq; omega⟩
            have HQ5 := Lib.hid (HR.out.trans (show _ = (treeP F (l.drop (q + 1))).bind fun y => (restP (treeP F) M' y.2).map fun z => ((f.app (.cons h Fo.nil .nil)).app (.cons y.1.1 y.1.2 z.1), z.2) by
              rw [HD, restP_more]
              cases treeP F (l.drop (q + 1)) with
              | none => rfl
              | some y => simp only [Option.bind_some]; cases restP (treeP F) M' y.2 <;> simp [app_cons]))
            have HN5 := Lib.hid (show ∀ y u, treeP F (l.drop (q + 1)) = some (y, u) → u.length ≤ M' from fun y u hy => by
              have h1 := HTL.out _ _ _ hy
              simp at hNq h1
              omega)
            clear HD hNq
            go_wp2_with fail
            go_roundw
            case rel => exact ⟨f.app (.cons h Fo.nil .nil), q + 1, g', cap', some ⟨g', 0, none⟩, cs ++ treeCells h aa ca none (Fo.nil).len 0, fun _ => M', by go_num, by rw [app_len], .inr rfl, by omega, by omega, by rw [app_len]; omega, HN5.out, HQ5.out, B5.out, by rw [← app_len h Fo.nil f] at O5; exact O5.out, S5.out⟩
            case measure => simp [intOf]; omega
          · have b32 : ((dd.toNat : Int) != 32) = true := by simp; omega
            have b32' : (dd.toNat == 32) = false := by simpa using h32
            have HE := Lib.hid (HR.out.trans (show _ = some (f.app (.cons h Fo.nil .nil), l.drop q) by rw [restP_stop (by rw [drop_at hq2 hdd]; simp; intro e; exact h32 (by rw [e]; rfl))]; simp))
            have hlq : l.length - (l.drop (q)).length = q := by simp; omega
            clear h32
            go_wp2_with fail
            go_ret3
            exact ⟨_, _, f.app (.cons h Fo.nil .nil), by rw [HE.out] <;> rfl, fun g r hgr => (by rw [HE.out] at hgr; cases hgr; exact ⟨rfl, by rw [hlq] <;> simp⟩), HAE.out, B5.out⟩
      obtain rfl : c = 123 := UInt8.toNat_inj.1 (by rw [h123]; rfl)
      have HX1 := getD_at (d := 0) hq1 hc
      have HY := Lib.hid (show ∀ y, ((F (l.drop (q + 1))).bind fun x => expP 125 x.1 x.2).map (fun x => ((h, x.1), x.2)) = y → treeP F (l.drop p) = y from fun y hy => HX.out y ((if_pos hk0).trans (by rw [drop_at hq1 hc, optK_yes]; exact hy)))
      have HK1 := Lib.hid (fun W => HK.out W (by omega))
      clear HX HK h123 hk0
      go_wp2_with fail
      cases hf : F (l.drop (q + 1)) with
      | none =>
        have HZ := Lib.hid (HQ.out.trans (by rw [HY.out none (by rw [hf] <;> rfl)] <;> rfl))
        refine (HK1.out _).mono ?_
        rw [hf]
        rintro e w3 ⟨v, p', f', rfl, _, hlf, hb3⟩
        obtain ⟨av, cv, rfl⟩ := liesF_form hlf
        have B3 := (BW.out.trans ((HB1.out.trans (Bt.out.mono hs1)).mono hsr)).trans (hb3.mono (by omega))
        clear hlf hf
        go_wp2_with fail
        go_ret3
        exact FoRes.no HZ.out rfl B3
      | some x =>
        obtain ⟨gk, r2⟩ := x
        obtain ⟨hr2, hpm, hrl2⟩ := suffix_drop (HTX.out _ _ _ hf).1 (by omega)
        obtain ⟨m, hm⟩ : ∃ m, l.length - r2.length = m := ⟨_, rfl⟩
        rw [hm] at hr2 hpm
        have hml : m ≤ l.length := by omega
        have hqm : q + 1 ≤ m := by omega
        subst hr2
        refine (HK1.out _).mono ?_
        rw [hf]
        rintro e w3 ⟨v, p', f', rfl, hpx, hlf, hb3⟩
        obtain ⟨rfl, hp'⟩ := hpx _ _ rfl
        obtain rfl : p' = (m : Int) := by rw [hp', hm]
        obtain ⟨ak, ck, rfl⟩ := liesF_form hlf
        have HLF := Lib.hid hlf
        have hs3 := hb3.size
        have k3 := (hb3.block (w1.heap.size + 1) (by omega)).trans KT.out
        have B13 := Lib.hid (Bt.out.trans (hb3.mono (by omega)))
        have B3 := Lib.hid ((BW.out.trans ((HB1.out.trans (Bt.out.mono hs1)).mono hsr)).trans (hb3.mono (by omega)))
        clear hpx hlf hb3 hp' hm hrl2 hpm HK1
        by_cases hm1 : m < l.length
        rotate_left
        · have HZ := Lib.hid (HQ.out.trans (by rw [HY.out none (by rw [hf, Option.bind_some, show l.drop m = [] by rw [List.drop_eq_nil_iff]; omega] <;> rfl)] <;> rfl))
          have dm : decide ((l.length : Int) ≤ (m : Int)) = true := by simp; omega
          clear hf
          go_wp2_with fail
          go_ret3
          exact FoRes.no HZ.out rfl B3.out
        have dm : decide ((l.length : Int) ≤ (m : Int)) = false := by simp; omega
        obtain ⟨c, hcm⟩ : ∃ c, l[m] = c := ⟨_, rfl⟩
        by_cases h125 : c.toNat = 125
        rotate_left
        · have HZ := Lib.hid (HQ.out.trans (by rw [HY.out none (by rw [hf, Option.bind_some, drop_at hm1 hcm]; simp [expP, h125])] <;> rfl))
          have b125 : ((c.toNat : Int) != 125) = true := by simp; omega
          have b125' : (c.toNat == 125) = false := by simpa using h125
          have HX2 := getD_at (d := 0) hm1 hcm
          clear hf h125
          go_wp2_with fail
          go_ret3
          exact FoRes.no HZ.out rfl B3.out
        obtain rfl : c = 125 := UInt8.toNat_inj.1 (by rw [h125]; rfl)
        have HX2 := getD_at (d := 0) hm1 hcm
        have HTR := Lib.hid (HY.out (some ((h, f'), l.drop (m + 1))) (by rw [hf, Option.bind_some, drop_at hm1 hcm]; rfl))
        clear hf h125 HY
        have t6 : w3.cell? ⟨w1.heap.size + 1, 6, none⟩ = some (.slice none 0 0) := cell_of_block k3 rfl
        have tf6 := frozen_of_block (o := 6) k3
        have K0 : (w3.setCell ⟨w1.heap.size + 1, 6, none⟩ (.slice ak f'.len ck)).heap[w1.heap.size + 1]? = _ := set_block k3
        have b1 : Below w1.heap.size w1 (w3.setCell ⟨w1.heap.size + 1, 6, none⟩ (.slice ak f'.len ck)) := B13.out.setCell (p := ⟨w1.heap.size + 1, 6, none⟩) (by show w1.heap.size ≤ w1.heap.size + 1; omega) _
        have L0 := liesF_mono (by omega : wr.heap.size ≤ W.heap.size) (liesF_keeps HLF.out (Keeps.setCell w3 (B := W.heap.size) (b := w1.heap.size + 1) (by omega) 6 (.slice ak f'.len ck)))
        go_upto_region 11 with fail
        generalize w3.setCell ⟨w1.heap.size + 1, 6, none⟩ (.slice ak f'.len ck) = W5 at *
        have B0 : Below wr.heap.size wr W5 := HB1.out.trans (b1.mono hs1)
        have F0 := attrsF_keeps HFA.out (Keeps.of_below b1 : Keeps wr.heap.size w1 W5)
        clear t6 tf6 k3 b1 kd
        have OW := Lib.hid (owns_below OWN.out B0)
        have SW := Lib.hid (ST.out.next (W1 := W5) (g' := g) B0.size (fun k o _ hk _ => World.cell?_of_block (B0.block k hk)) (.inl rfl))
        have FW := Lib.hid F0
        have LW := Lib.hid L0
        have BF := Lib.hid (BW.out.trans (B0.mono hsr))
        have HR := Lib.hid (HQ.out.trans (show _ = (restP (treeP F) (N (l.drop (m + 1))) (l.drop (m + 1))).map (fun z => (f.app (.cons h f' z.1), z.2)) by rw [HTR.out] <;> rfl))
        have hNq := HN.out _ _ HTR.out
        obtain ⟨M, hM⟩ : ∃ M, N (l.drop (m + 1)) = M := ⟨_, rfl⟩
        rw [hM] at hNq HR
        have hsW := B0.size
        have t0 : W5.cell? ⟨w1.heap.size + 1, 0, none⟩ = some (.int .i64 h.k) := cell_of_block K0 rfl
        have t1 : W5.cell? ⟨w1.heap.size + 1, 1, none⟩ = some (.string ⟨h.l.toArray⟩) := cell_of_block K0 rfl
        have t2 : W5.cell? ⟨w1.heap.size + 1, 2, none⟩ = some (.slice aa h.ats.length ca) := cell_of_block K0 rfl
        have t3 : W5.cell? ⟨w1.heap.size + 1, 3, none⟩ = some (.int .i64 h.n) := cell_of_block K0 rfl
        have t4 : W5.cell? ⟨w1.heap.size + 1, 4, none⟩ = some (.int .i64 h.d) := cell_of_block K0 rfl
        have t5 : W5.cell? ⟨w1.heap.size + 1, 5, none⟩ = some (.string ⟨h.x.toArray⟩) := cell_of_block K0 rfl
        have t6 : W5.cell? ⟨w1.heap.size + 1, 6, none⟩ = some (.slice ak f'.len ck) := cell_of_block K0 rfl
        clear B0 F0 L0 hM HTR
        go_wp2_with (at_builtin; refine wpList_append_own_at _ rfl _ _ 28 rfl w.heap.size 43 i0 _ 7 104 Tryz.underlying28 hi hz0 hz1 hz2 rfl (by decide) (.slice a f.len cap) f.len cs rfl (OW.out.alloc _) ⟨W5.heap.size, 0, none⟩ 1 1 [.int .i64 h.k, .string ⟨h.l.toArray⟩, .slice aa h.ats.length ca, .int .i64 h.n, .int .i64 h.d, .string ⟨h.x.toArray⟩, .slice ak f'.len ck] rfl rfl ?c1y4 ?c2y4 ?c3y4 ?c4y4 ?c5y4 ?stopy4)
        case c1y4 =>
          intro j u hj
          have hnew := World.alloc_heap_new W5 (.cells #[.int .i64 h.k, .string ⟨h.l.toArray⟩, .slice aa h.ats.length ca, .int .i64 h.n, .int .i64 h.d, .string ⟨h.x.toArray⟩, .slice ak f'.len ck] 43)
          rw [Go.WideShapes.add_plain]
          exact cell_of_block hnew (by simpa using hj)
        case c2y4 => intro u hu; simp at hu; rcases hu with rfl | rfl | rfl | rfl | rfl | rfl | rfl <;> rfl
        case c3y4 => unfold maxLen; omega
        case c4y4 => omega
        case c5y4 => have := BF.out.size; simp; omega
        case stopy4 =>
          intro v' w5 hown' hgrow _ hat
          obtain ⟨g', cap', rfl⟩ : ∃ g cap, v' = .slice (some ⟨g, 0, none⟩) (f.len + 1) cap := by
            rcases hown'.2 with ⟨_, h0⟩ | ⟨g, cap, cur, hv, _⟩
            · omega
            · exact ⟨g, cap, hv⟩
          have hob : ∀ k, (Value.slice a f.len cap).ownBlock = some k → k = g ∧ k < wr.heap.size := by
            intro k e
            refine ⟨?_, (HG.out k e).2⟩
            rcases HAA.out with rfl | rfl
            · cases e
            · simpa [Value.ownBlock] using e.symm
          have hat2 : (g' = g ∧ g' < wr.heap.size) ∨ g' = W5.heap.size + 1 := by
            rcases hat with e | e
            · exact .inl (hob g' (e.symm.trans rfl))
            · exact .inr (by simpa [Value.ownBlock] using e)
          have hs5 := hgrow.size
          simp at hs5
          have hcell : ∀ W' : World, w5.heap.size ≤ W'.heap.size → (∀ k o, w.heap.size ≤ k → k < w5.heap.size → k ≠ g' → W'.cell? ⟨k, o, none⟩ = w5.cell? ⟨k, o, none⟩) → ∀ k o, w.heap.size ≤ k → k < W5.heap.size → k ≠ g → W'.cell? ⟨k, o, none⟩ = W5.cell? ⟨k, o, none⟩ := by
            intro W' hW hc k o h1 h2 h3
            refine (hc k o h1 (by omega) (by omega)).trans (World.cell?_of_block ?_)
            rw [hgrow.block k (by simp; omega) (fun e => h3 (hob k e.symm).1), Below.heap_alloc _ _ k h2]
          have hcell2 : ∀ W' : World, w5.heap.size ≤ W'.heap.size → (∀ k o, w.heap.size ≤ k → k < w5.heap.size → k ≠ g' → W'.cell? ⟨k, o, none⟩ = w5.cell? ⟨k, o, none⟩) → Keeps wr.heap.size W5 W' := by
            intro W' hW hc
            refine ⟨by omega, fun k o h1 h2 => ?_⟩
            refine (hc k o (by omega) (by omega) (by omega)).trans (World.cell?_of_block ?_)
            rw [hgrow.block k (by simp; omega) (fun e => by have := (hob k e.symm).2; omega), Below.heap_alloc _ _ k h2]
          have S5 := Lib.hid (show Stab w.heap.size g' w5 (f.app (.cons h f' .nil)) (cs ++ treeCells h aa ca ak (f').len ck) by
            intro W' hW hc
            have hk := hcell2 W' hW hc
            exact rowL_snoc (attrsF_mono (by omega) (attrsF_keeps FW.out hk)) (liesF_mono (by omega) (liesF_keeps LW.out hk)) f cs (SW.out W' (by omega) (hcell W' hW hc)))
          have O5 := Lib.hid (show w5.ownsRow w.heap.size 43 7 (.slice (some ⟨g', 0, none⟩) (f.len + 1) cap') (f.app (.cons h f' .nil)).len (cs ++ treeCells h aa ca ak (f').len ck) by
            rw [app_len]; exact hown')
          have B5 := Lib.hid (((BF.out.alloc BF.out.size _).grown hgrow (by have := BF.out.size; simp; omega) (fun k hk => (HG.out k hk).1) : Below w.heap.size w w5))
          have HAE := Lib.hid (show LiesF w.heap.size w5 (.slice (some ⟨g', 0, none⟩) (f.len + 1) cap') (f.app (.cons h f' .nil)) by
            have hrow := S5.out w5 (Nat.le_refl _) (fun _ _ _ _ _ => rfl)
            obtain ⟨_, h2⟩ := hown'
            rcases h2 with ⟨h3, _⟩ | ⟨g1, cap1, cur, h3, hb1, hg1, hn1, hc1, _, _⟩
            · cases h3
            · cases h3
              refine .inr ⟨g', 0, cap', by rw [app_len], by rw [app_len]; exact hn1, by rw [app_len]; omega, hb1, (Array.getElem?_eq_some_iff.1 hg1).1, rowL_row _ _ 0 hrow fun j u hj => by
                have := O5.out.cells (g := g') rfl j u hj
                rw [Go.WideShapes.add_plain] at this
                simpa using this⟩)
          clear hown' hgrow hat hcell hcell2 hob hat2
          by_cases hq2 : (m + 1) < l.length
          rotate_left
          · have HE := Lib.hid (HR.out.trans (show _ = some (f.app (.cons h f' .nil), l.drop (m + 1)) by rw [restP_stop (by rw [show l.drop ((m + 1)) = [] by rw [List.drop_eq_nil_iff]; omega]; simp)]; simp))
            have dq2 : decide ((l.length : Int) ≤ ((m + 1) : Int)) = true := by simp; omega
            have hlq : l.length - (l.drop ((m + 1))).length = (m + 1) := by simp; omega
            go_wp2_with fail
            go_ret3
            exact ⟨_, _, f.app (.cons h f' .nil), by rw [HE.out] <;> rfl, fun g r hgr => (by rw [HE.out] at hgr; cases hgr; exact ⟨rfl, by rw [hlq] <;> simp⟩), HAE.out, B5.out⟩
          have dq2 : decide ((l.length : Int) ≤ ((m + 1) : Int)) = false := by simp; omega
          obtain ⟨dd, hdd⟩ : ∃ dd, l[(m + 1)] = dd := ⟨_, rfl⟩
          have HX7 := getD_at (d := 0) hq2 hdd
          by_cases h32 : dd.toNat = 32
          · obtain rfl : dd = 32 := UInt8.toNat_inj.1 (by rw [h32]; rfl)
            have HD := drop_at hq2 hdd
            rw [HD] at hNq
            obtain ⟨M', rfl⟩ : ∃ M', M = M' + 1 := ⟨M - 1, by simp at hNq; omega⟩
            have HQ5 := Lib.hid (HR.out.trans (show _ = (treeP F (l.drop ((m + 1) + 1))).bind fun y => (restP (treeP F) M' y.2).map fun z => ((f.app (.cons h f' .nil)).app (.cons y.1.1 y.1.2 z.1), z.2) by
              rw [HD, restP_more]
              cases treeP F (l.drop ((m + 1) + 1)) with
              | none => rfl
              | some y => simp only [Option.bind_some]; cases restP (treeP F) M' y.2 <;> simp [app_cons]))
            have HN5 := Lib.hid (show ∀ y u, treeP F (l.drop ((m + 1) + 1)) = some (y, u) → u.length ≤ M' from fun y u hy => by
              have h1 := HTL.out _ _ _ hy
              simp at hNq h1
              omega)
            clear HD hNq
            go_wp2_with fail
            go_roundw
            case rel => exact ⟨f.app (.cons h f' .nil), (m + 1) + 1, g', cap', some ⟨g', 0, none⟩, cs ++ treeCells h aa ca ak (f').len ck, fun _ => M', by go_num, by rw [app_len], .inr rfl, by omega, by omega, by rw [app_len]; omega, HN5.out, HQ5.out, B5.out, by rw [← app_len h f' f] at O5; exact O5.out, S5.out⟩
            case measure => simp [intOf]; omega
          · have b32 : ((dd.toNat : Int) != 32) = true := by simp; omega
            have b32' : (dd.toNat == 32) = false := by simpa using h32
            have HE := Lib.hid (HR.out.trans (show _ = some (f.app (.cons h f' .nil), l.drop (m + 1)) by rw [restP_stop (by rw [drop_at hq2 hdd]; simp; intro e; exact h32 (by rw [e]; rfl))]; simp))
            have hlq : l.length - (l.drop ((m + 1))).length = (m + 1) := by simp; omega
            clear h32
            go_wp2_with fail
            go_ret3
            exact ⟨_, _, f.app (.cons h f' .nil), by rw [HE.out] <;> rfl, fun g r hgr => (by rw [HE.out] at hgr; cases hgr; exact ⟨rfl, by rw [hlq] <;> simp⟩), HAE.out, B5.out⟩
end Go.Proofs.YtcgedpfolloinaaGreat

namespace Go.Proofs.YtcgedpfolloinaaGreat
open Go.RowKit

def cmpL : List Int → List Int → Int
  | [], [] => 0
  | [], _ :: _ => -1
  | _ :: _, [] => 1
  | a :: s, b :: t => if cmpM a b ≠ 0 then cmpM a b else cmpL s t
theorem cmpL_step {l m : List Int} {k : Nat} (hl : k < l.length) (hm : k < m.length) : cmpL (l.drop k) (m.drop k) = if cmpM (l.getD k 0) (m.getD k 0) ≠ 0 then cmpM (l.getD k 0) (m.getD k 0) else cmpL (l.drop (k + 1)) (m.drop (k + 1)) := by
  rw [List.drop_eq_getElem_cons hl, List.drop_eq_getElem_cons hm, cmpL]
  simp only [List.getD_eq_getElem?_getD, List.getElem?_eq_getElem hl, List.getElem?_eq_getElem hm, Option.getD_some]
theorem cmpL_one {l m : List Int} {k : Nat} (hl : k < l.length) (hm : m.length ≤ k) : cmpL (l.drop k) (m.drop k) = 1 := by
  rw [List.drop_eq_getElem_cons hl, List.drop_of_length_le hm, cmpL]
theorem cmpL_neg {l m : List Int} {k : Nat} (hl : l.length ≤ k) (hm : k < m.length) : cmpL (l.drop k) (m.drop k) = -1 := by
  rw [List.drop_eq_getElem_cons hm, List.drop_of_length_le hl, cmpL]
theorem cmpL_nil {l m : List Int} {k : Nat} (hl : l.length ≤ k) (hm : m.length ≤ k) : cmpL (l.drop k) (m.drop k) = 0 := by
  rw [List.drop_of_length_le hm, List.drop_of_length_le hl, cmpL]

set_option maxRecDepth 100000 in
set_option maxHeartbeats 2000000 in
theorem compareInts_any (l m : List Int) (v u : Value) (w : World) (h1 : IntsLie w v l) (h2 : IntsLie w u m) (hl : l.length ≤ 1000000) (hm : m.length ≤ 1000000) :
    Calls Tryz.prog 101 #[v, u] w fun e w' => e = .returned (.int .i64 (cmpL l m)) ∧ w = w' := by
  obtain ⟨a1, c1, rfl⟩ := ints_form h1
  obtain ⟨a2, c2, rfl⟩ := ints_form h2
  have H1 := Lib.hid h1
  have H2 := Lib.hid h2
  clear h1 h2
  go_enter Tryz.func101, Tryz.ntmps101
  go_wp2_with fail
  go_loop [11] (fun i => ∃ k : Nat, i = .int .i64 k ∧ k ≤ l.length ∧ k ≤ m.length ∧ cmpL l m = cmpL (l.drop k) (m.drop k)) (fun i => l.length - (intOf i).toNat)
  case atStart => exact ⟨0, rfl, Nat.zero_le _, Nat.zero_le _, rfl⟩
  case round =>
    obtain ⟨k, rfl, hk, hk2, he⟩ := hrel
    have HE := Lib.hid he
    clear he
    by_cases hlt : k < l.length
    · by_cases hlt2 : k < m.length
      · have d2 : decide (m.length ≤ k) = false := decide_eq_false (by omega)
        obtain ⟨b, off, cap', hs, hcap, hb, hc⟩ := ints_cells H1.out (by intro e; subst e; simp at hlt)
        simp only [Value.slice.injEq] at hs
        obtain ⟨rfl, -, rfl⟩ := hs
        obtain ⟨b', off', cap'', hs, hcap', hb', hc'⟩ := ints_cells H2.out (by intro e; subst e; simp at hlt2)
        simp only [Value.slice.injEq] at hs
        obtain ⟨rfl, -, rfl⟩ := hs
        have q1 := hc k hlt
        have q2 := hc' k hlt2
        have HS := Lib.hid (HE.out.trans (cmpL_step hlt hlt2))
        clear hc hc'
        generalize l.getD k 0 = x at *
        generalize m.getD k 0 = y at *
        have CM := Lib.hid (compare_any x y w)
        generalize cmpM x y = c at *
        by_cases hx : c = 0
        · have HX := Lib.hid (HS.out.trans (if_neg (by simpa using hx)))
          have b0 : (c != 0) = false := by simpa using hx
          clear hx
          go_wp2_with fail
          refine CM.out.mono ?_; rintro e w' ⟨rfl, rfl⟩
          go_wp2_with fail
          go_round
          case rel => exact ⟨k + 1, by go_num, by omega, by omega, HX.out⟩
          case measure => simp [intOf]; omega
        · have HX := Lib.hid (HS.out.trans (if_pos (by simpa using hx)))
          have b0 : (c != 0) = true := by simpa using hx
          clear hx
          go_wp2_with fail
          refine CM.out.mono ?_; rintro e w' ⟨rfl, rfl⟩
          go_wp2_with fail
          go_ret
          exact ⟨ret_int' HX.out.symm, rfl⟩
      · have d2 : decide (m.length ≤ k) = true := decide_eq_true (by omega)
        have HX := Lib.hid (HE.out.trans (cmpL_one hlt (by omega)))
        obtain ⟨b, off, cap', hs, hcap, hb, hc⟩ := ints_cells H1.out (by intro e; subst e; simp at hlt)
        simp only [Value.slice.injEq] at hs
        obtain ⟨rfl, -, rfl⟩ := hs
        have q1 := hc k hlt
        clear hc
        go_wp2_with fail
        go_ret
        exact ⟨ret_int' HX.out.symm, rfl⟩
    · by_cases hlt2 : k < m.length
      · have HX := Lib.hid (HE.out.trans (cmpL_neg (by omega) hlt2))
        have d2 : decide (l.length < m.length) = true := decide_eq_true (by omega)
        go_wp2_with fail
        go_ret
        exact ⟨ret_int' HX.out.symm, rfl⟩
      · have HX := Lib.hid (HE.out.trans (cmpL_nil (by omega) (by omega)))
        have d2 : decide (l.length < m.length) = false := decide_eq_false (by omega)
        go_wp2_with fail
        go_ret
        exact ⟨ret_int' HX.out.symm, rfl⟩

theorem info_int2 : (Tryz.prog.info? 3).map (fun i => (i.zero, i.size, i.bytes)) = some (some (.int .i64 0), 1, 8) := by kernel_rfl
/-- ints in no block below B. -/
def IntsF (B : Nat) (w : World) (v : Value) (l : List Int) : Prop :=
  (∃ a cap, v = .slice a 0 cap ∧ l = []) ∨ ∃ b off cap, v = .slice (some ⟨b, off, none⟩) l.length cap ∧ l.length ≤ cap ∧ B ≤ b ∧ b < w.heap.size ∧ ∀ k, k < l.length → w.cell? ⟨b, off + k, none⟩ = some (.int .i64 (l.getD k 0))
theorem intsF_lies {B : Nat} {w : World} {v : Value} {l : List Int} (h : IntsF B w v l) : IntsLie w v l := by
  rcases h with h | ⟨b, off, cap, h1, h2, h3, h4, h5⟩
  · exact .inl h
  · exact .inr ⟨b, off, cap, h1, h2, h4, h5⟩
theorem intsF_keeps {B : Nat} {w w' : World} {v : Value} {l : List Int} (h : IntsF B w v l) (k : Keeps B w w') : IntsF B w' v l := by
  rcases h with h | ⟨b, off, cap, h1, h2, h3, h4, h5⟩
  · exact .inl h
  · exact .inr ⟨b, off, cap, h1, h2, h3, Nat.lt_of_lt_of_le h4 k.1, fun i hi => (k.2 _ _ h3 h4).trans (h5 i hi)⟩
theorem intsF_form {B : Nat} {w : World} {v : Value} {l : List Int} (h : IntsF B w v l) : ∃ a cap, v = .slice a l.length cap := ints_form (intsF_lies h)
theorem intsF_owned {W : World} {base : Nat} {v : Value} {l : List Int} (h : W.ownsRow base 3 1 v l.length (l.map (Value.int .i64))) : IntsF base W v l := by
  rcases h.2 with ⟨rfl, h0⟩ | ⟨g, cap, cur, rfl, hb, hg, hn, hcap, hs, ht⟩
  · exact .inl ⟨_, _, rfl, List.eq_nil_of_length_eq_zero h0⟩
  · refine .inr ⟨g, 0, cap, rfl, hn, hb, (Array.getElem?_eq_some_iff.1 hg).1, fun k hk => ?_⟩
    have e1 : (l.map (Value.int .i64))[k]? = some (.int .i64 (l.getD k 0)) := by
      rw [List.getElem?_map, List.getD_eq_getElem?_getD, List.getElem?_eq_getElem hk]; rfl
    rw [← ht, List.getElem?_take, if_pos (by omega), Array.getElem?_toList] at e1
    rw [Nat.zero_add]
    exact cell_of_block hg e1

set_option maxRecDepth 100000 in
set_option maxHeartbeats 1000000 in
theorem cloneInts_any (v : Value) (l : List Int) (w : World) (h : IntsLie w v l) (hl : l.length ≤ 1000000) :
    Calls Tryz.prog 102 #[v] w fun e w' => ∃ v', e = .returned v' ∧ IntsF w.heap.size w' v' l ∧ Below w.heap.size w w' := by
  obtain ⟨i0, hi, hz0, hz1, hz2⟩ := info_parts info_int2
  obtain ⟨a, cap, rfl⟩ := ints_form h
  have H := Lib.hid h
  clear h
  cases a with
  | none =>
    have hl0 : l = [] := by
      rcases H.out with ⟨_, _, h1, h2⟩ | ⟨b, off, cap', h1, _⟩
      · exact h2
      · simp at h1
    subst hl0
    have hnil := fun (w : World) => Lib.run_eql_slice_nil (P := Tryz.prog) w 41 3 none 0 cap 0 0 Tryz.underlying41
    simp only [List.length_nil]
    go_enter Tryz.func102, Tryz.ntmps102
    go_wp2_with fail
    go_ret
    exact ⟨_, rfl, .inl ⟨_, _, rfl, rfl⟩, by ((repeat' (first | exact Below.refl _ _ | assumption | refine Below.setCell ?_ ?_ _ | refine bdrewN ?_ _ | refine Below.drew ?_ | refine Below.alloc ?_ ?_ _ | refine bbehind ?_ (by assumption) ?_)); all_goals first | (simp; done) | (simp; omega) | omega)⟩
  | some ad =>
    have hnil := fun (w : World) => Lib.run_eql_slice_nil (P := Tryz.prog) w 41 3 (some ad) l.length cap 0 0 Tryz.underlying41
    have hnews : ∀ j u, (l.map (Value.int .i64))[j]? = some u → (w.alloc (.cells #[] 3)).cell? (ad.add j) = some u := by
      intro j u hj
      have hjl : j < l.length := by have := (List.getElem?_eq_some_iff.1 hj).1; simpa using this
      obtain ⟨b, off, cap', hs, _, hb, hc⟩ := ints_cells H.out (by intro e; subst e; simp at hjl)
      simp only [Value.slice.injEq, Option.some.injEq] at hs
      obtain ⟨rfl, -, -⟩ := hs
      rw [World.cell?_of_block (w := w) (Below.heap_alloc _ _ _ (by rw [Go.WideShapes.add_plain]; exact hb)), Go.WideShapes.add_plain, hc j hjl, ← hj]
      rw [List.getElem?_map, List.getD_eq_getElem?_getD, List.getElem?_eq_getElem hjl]; rfl
    have hown0 : (w.alloc (.cells #[] 3)).ownsRow w.heap.size 3 1 (.slice (some ⟨w.heap.size, 0, none⟩) 0 0) 0 [] := World.ownsRow_lit w #[] 0 (Nat.le_refl _) (by decide) rfl
    have HN := Lib.hid hnews
    clear hnews
    go_enter Tryz.func102, Tryz.ntmps102
    go_wp2_with (at_builtin; refine wpList_append_own _ rfl _ _ 41 rfl w.heap.size 3 i0 (.int .i64 0) 1 8 Tryz.underlying41 hi hz0 hz1 hz2 rfl (by decide) _ _ _ rfl hown0 ad l.length cap (l.map (Value.int .i64)) rfl (by simp) HN.out ?c1 ?c2 ?c3 ?c4 ?stop)
    case c1 =>
      intro u hu
      obtain ⟨q, _, rfl⟩ := List.mem_map.1 hu
      rfl
    case c2 => unfold maxLen; omega
    case c3 => omega
    case c4 => simp
    case stop =>
      intro v' w2 hown hgrow _
      have HO := Lib.hid hown
      have HB := Lib.hid ((((Below.refl w.heap.size w).alloc (Nat.le_refl _) _)).grown hgrow (by simp) (fun k hk => by simp [Value.ownBlock] at hk; omega))
      clear hown hgrow
      go_wp2_with fail
      go_ret
      exact ⟨v', rfl, intsF_owned (by simpa using HO.out), HB.out⟩
end Go.Proofs.YtcgedpfolloinaaGreat

namespace Go.Proofs.YtcgedpfolloinaaGreat
open Go.RowKit Go.Shelf

def nextV (vs : List Vis) (p : List Int) : Option (List Int) := (vs.find? (fun x => decide (0 < cmpL (pathInts x.p) p))).map (fun x => pathInts x.p)
def nextF (f : Fo) (p : List Int) : List Int × Bool × Int :=
  if foErr f ≠ 0 then ([], false, foErr f) else if (placeF f p).isSome = false ∧ p ≠ [] then ([], false, 6) else match nextV (seqAt [] 0 f) p with
    | none => ([], false, 0)
    | some q => (q, true, 0)
def NextRes (w : World) (r : List Int × Bool × Int) (e : Ending) (w' : World) : Prop :=
  ∃ a cap, e = .returned (.tuple #[.slice a r.1.length cap, .bool r.2.1, .int .i64 r.2.2]) ∧ IntsF w.heap.size w' (.slice a r.1.length cap) r.1 ∧ Below w.heap.size w w'

/-- the four cells of its own that Next begins with. -/
structure NC (w W : World) (pv a b c : Value) : Prop where
  c0 : W.cell? ⟨w.heap.size, 0, none⟩ = some pv
  c1 : W.cell? ⟨w.heap.size + 1, 0, none⟩ = some a
  f1 : W.frozen? ⟨w.heap.size + 1, 0, none⟩ = false
  c2 : W.cell? ⟨w.heap.size + 1 + 1, 0, none⟩ = some b
  f2 : W.frozen? ⟨w.heap.size + 1 + 1, 0, none⟩ = false
  c3 : W.cell? ⟨w.heap.size + 1 + 1 + 1, 0, none⟩ = some c
  f3 : W.frozen? ⟨w.heap.size + 1 + 1 + 1, 0, none⟩ = false
  size : w.heap.size + 4 ≤ W.heap.size
  bel : Below w.heap.size w W
theorem NC.start (w : World) (pv : Value) : NC w ((((w.alloc (.cells #[pv] 41)).alloc (.cells #[.slice none 0 0] 41)).alloc (.cells #[.bool false] 4)).alloc (.cells #[.int .i64 0] 32)) pv (.slice none 0 0) (.bool false) (.int .i64 0) := by
  refine ⟨?_, ?_, ?_, ?_, ?_, ?_, ?_, by simp, ((((Below.refl _ w).alloc (Nat.le_refl _) _).alloc (by simp) _).alloc (by simp; omega) _).alloc (by simp; omega) _⟩ <;> simp [go_sem]
theorem NC.same {w W W' : World} {pv a b c : Value} (h : NC w W pv a b c) (hb : ∀ k, w.heap.size ≤ k → k < w.heap.size + 4 → W'.heap[k]? = W.heap[k]?) (hz : W.heap.size ≤ W'.heap.size) (hB : Below w.heap.size w W') : NC w W' pv a b c := by
  obtain ⟨c0, c1, f1, c2, f2, c3, f3, size, bel⟩ := h
  have b0 := hb w.heap.size (by omega) (by omega)
  have b1 := hb (w.heap.size + 1) (by omega) (by omega)
  have b2 := hb (w.heap.size + 1 + 1) (by omega) (by omega)
  have b3 := hb (w.heap.size + 1 + 1 + 1) (by omega) (by omega)
  exact ⟨(World.cell?_of_block (w := W) b0).trans c0, (World.cell?_of_block (w := W) b1).trans c1, (World.frozen?_of_block (w := W) b1).trans f1, (World.cell?_of_block (w := W) b2).trans c2, (World.frozen?_of_block (w := W) b2).trans f2,
    (World.cell?_of_block (w := W) b3).trans c3, (World.frozen?_of_block (w := W) b3).trans f3, Nat.le_trans size hz, hB⟩
theorem NC.below {w W W' : World} {pv a b c : Value} (h : NC w W pv a b c) (k : Below W.heap.size W W') : NC w W' pv a b c :=
  h.same (fun i _ hi => k.block i (by have := h.size; omega)) k.size (h.bel.trans (k.mono (by have := h.size; omega)))
theorem NC.set3 {w W : World} {pv a b c : Value} (h : NC w W pv a b c) (a' b' c' : Value) : NC w (((W.setCell ⟨w.heap.size + 1, 0, none⟩ a').setCell ⟨w.heap.size + 1 + 1, 0, none⟩ b').setCell ⟨w.heap.size + 1 + 1 + 1, 0, none⟩ c') pv a' b' c' := by
  obtain ⟨c0, c1, f1, c2, f2, c3, f3, size, bel⟩ := h
  refine ⟨?_, ?_, ?_, ?_, ?_, ?_, ?_, by simpa [World.setCell] using size, ((bel.setCell (p := ⟨w.heap.size + 1, 0, none⟩) (by show w.heap.size ≤ w.heap.size + 1; omega) _).setCell (p := ⟨w.heap.size + 1 + 1, 0, none⟩) (by show w.heap.size ≤ w.heap.size + 1 + 1; omega) _).setCell (p := ⟨w.heap.size + 1 + 1 + 1, 0, none⟩) (by show w.heap.size ≤ w.heap.size + 1 + 1 + 1; omega) _⟩ <;> simp (maxDischargeDepth := 8) [go_sem, *]

set_option maxRecDepth 100000 in
set_option maxHeartbeats 2000000 in
theorem next_err (f : Fo) (p : List Int) (v pv : Value) (w : World) (hl : Lies w v f) (hs : Small f) (hp : IntsLie w pv p) (he : foErr f ≠ 0) :
    Calls Tryz.prog 38 #[v, pv] w (NextRes w (nextF f p)) := by
  have CH := Lib.hid (fun w1 (hw : Below w.heap.size w w1) => tcheck_any f v w1 (lies_below hl hw) hs)
  obtain ⟨a, cap, rfl⟩ := lies_form hl
  obtain ⟨pa, pc, rfl⟩ := ints_form hp
  have HR := Lib.hid (show nextF f p = ([], false, foErr f) from if_pos he)
  clear hl hs hp
  generalize foErr f = er at *
  have b0 : (er != 0) = true := by simpa using he
  clear he
  have N0 := NC.start w (.slice pa p.length pc)
  go_enter Tryz.func38, Tryz.ntmps38
  go_wp2_with fail
  generalize (((w.alloc (.cells #[.slice pa p.length pc] 41)).alloc (.cells #[.slice none 0 0] 41)).alloc (.cells #[.bool false] 4)).alloc (.cells #[.int .i64 0] 32) = W0 at *
  refine (CH.out W0 N0.bel).mono ?_
  rintro e w1 ⟨rfl, hb1⟩
  have N1 := Lib.hid (N0.below hb1)
  clear N0 hb1
  obtain ⟨c0, c1, f1, c2, f2, c3, f3, size, bel⟩ := N1.out
  go_wp2_with fail
  have N2 := N1.out.set3 (.slice none 0 0) (.bool false) (.int .i64 er)
  clear c0 c1 f1 c2 f2 c3 f3 size bel
  generalize ((w1.setCell ⟨w.heap.size + 1, 0, none⟩ (.slice none 0 0)).setCell ⟨w.heap.size + 1 + 1, 0, none⟩ (.bool false)).setCell ⟨w.heap.size + 1 + 1 + 1, 0, none⟩ (.int .i64 er) = Wf at N2 ⊢
  obtain ⟨c0, c1, f1, c2, f2, c3, f3, size, bel⟩ := N2
  refine bodyPost_ret (v := .tuple #[.slice none 0 0, .bool false, .int .i64 er]) (by simp [results, Tryz.results38, go_sem, c1, c2, c3]) rfl ?_
  rw [HR.out]
  exact ⟨none, 0, rfl, .inl ⟨_, _, rfl, rfl⟩, bel⟩

set_option maxRecDepth 100000 in
set_option maxHeartbeats 2000000 in
theorem next_absent (f : Fo) (p : List Int) (v pv : Value) (w : World) (hl : Lies w v f) (hs : Small f) (hp : IntsLie w pv p) (hpl : p.length ≤ 1000000) (he : foErr f = 0) (hab : (placeF f p).isSome = false) (hp0 : p ≠ []) :
    Calls Tryz.prog 38 #[v, pv] w (NextRes w (nextF f p)) := by
  have CH := Lib.hid (fun w1 (hw : Below w.heap.size w w1) => tcheck_any f v w1 (lies_below hl hw) hs)
  have TA := Lib.hid (fun w1 (hw : Below w.heap.size w w1) => treeAt_any f p v pv w1 (lies_below hl hw) (ints_below hp hw) hpl)
  obtain ⟨a, cap, rfl⟩ := lies_form hl
  obtain ⟨pa, pc, rfl⟩ := ints_form hp
  have HR := Lib.hid (show nextF f p = ([], false, 6) from (if_neg (by simpa using he)).trans (if_pos ⟨hab, hp0⟩))
  have hpos : decide ((0 : Int) < (p.length : Int)) = true := decide_eq_true (by have := List.length_pos_iff.2 hp0; omega)
  have hpos2 : decide (0 < p.length) = true := decide_eq_true (List.length_pos_iff.2 hp0)
  rw [he] at CH
  have HAB := Lib.hid hab
  clear hl hs hp he hab hp0
  have N0 := NC.start w (.slice pa p.length pc)
  go_enter Tryz.func38, Tryz.ntmps38
  go_wp2_with fail
  generalize (((w.alloc (.cells #[.slice pa p.length pc] 41)).alloc (.cells #[.slice none 0 0] 41)).alloc (.cells #[.bool false] 4)).alloc (.cells #[.int .i64 0] 32) = W0 at *
  refine (CH.out W0 N0.bel).mono ?_
  rintro e w1 ⟨rfl, hb1⟩
  have N1 := Lib.hid (N0.below hb1)
  clear N0 hb1
  obtain ⟨c0, c1, f1, c2, f2, c3, f3, size, bel⟩ := N1.out
  go_wp2_with fail
  refine (TA.out w1 bel).mono ?_
  rintro e w2 ⟨h, ks, aa, ca, ak, ck, rfl, -, -, -, hb2⟩
  rw [HAB.out]
  unfold aggOf
  have N2 := Lib.hid (N1.out.below hb2)
  clear c0 c1 f1 c2 f2 c3 f3 size bel hb2
  obtain ⟨c0, c1, f1, c2, f2, c3, f3, size, bel⟩ := N2.out
  have z0 : w.heap.size < w2.heap.size := by omega
  have z1 : w.heap.size + 1 < w2.heap.size := by omega
  have z2 : w.heap.size + 1 + 1 < w2.heap.size := by omega
  have z3 : w.heap.size + 1 + 1 + 1 < w2.heap.size := by omega
  go_wp2_with fail
  have N3 := (N2.out.set3 (.slice none 0 0) (.bool false) (.int .i64 6)).below ((Below.refl _ _).alloc (Nat.le_refl _) (.cells #[.int .i64 h.k, .string ⟨h.l.toArray⟩, .slice aa h.ats.length ca, .int .i64 h.n, .int .i64 h.d, .string ⟨h.x.toArray⟩, .slice ak ks.len ck] 43))
  clear c0 c1 f1 c2 f2 c3 f3 size bel z0 z1 z2 z3
  generalize (((w2.setCell ⟨w.heap.size + 1, 0, none⟩ (.slice none 0 0)).setCell ⟨w.heap.size + 1 + 1, 0, none⟩ (.bool false)).setCell ⟨w.heap.size + 1 + 1 + 1, 0, none⟩ (.int .i64 6)).alloc (.cells #[.int .i64 h.k, .string ⟨h.l.toArray⟩, .slice aa h.ats.length ca, .int .i64 h.n, .int .i64 h.d, .string ⟨h.x.toArray⟩, .slice ak ks.len ck] 43) = Wf at N3 ⊢
  obtain ⟨c0, c1, f1, c2, f2, c3, f3, size, bel⟩ := N3
  refine bodyPost_ret (v := .tuple #[.slice none 0 0, .bool false, .int .i64 6]) (by simp [results, Tryz.results38, go_sem, c1, c2, c3]) rfl ?_
  rw [HR.out]
  exact ⟨none, 0, rfl, .inl ⟨_, _, rfl, rfl⟩, bel⟩

/-- what the search holds behind so many trees. -/
structure NxI (w : World) (R : Nat) (p : List Int) (pv : Value) (pre : List Vis) (G : Nat → Prop) (W : World) : Prop where
  g : ∀ k, G k ↔ k < R
  nc : NC w W pv (.slice none 0 0) (.bool false) (.int .i64 0)
  no : nextV pre p = none
  size : R ≤ W.heap.size
structure NxX (w : World) (R : Nat) (p : List Int) (pv : Value) (pre : List Vis) (W : World) : Prop where
  it : ∃ q a cap, nextV pre p = some q ∧ NC w W pv (.slice a q.length cap) (.bool true) (.int .i64 0) ∧ IntsF (w.heap.size + 4) W (.slice a q.length cap) q
  size : R ≤ W.heap.size
theorem NxI.spared {w W W' : World} {R : Nat} {p : List Int} {pv : Value} {pre : List Vis} {G : Nat → Prop} (h : NxI w R p pv pre G W) (sp : Spared G W W') (hR : w.heap.size + 4 ≤ R) : NxI w R p pv pre G W' := by
  obtain ⟨g, nc, no, size⟩ := h
  refine ⟨g, nc.same (fun k _ hk => sp.block k ((g k).2 (by omega))) sp.size (nc.bel.trans ⟨sp.os, sp.tape, sp.output, sp.size, fun k hk => sp.block k ((g k).2 (by omega))⟩), no, Nat.le_trans size sp.size⟩
theorem nextV_snoc {pre : List Vis} {x : Vis} {p : List Int} (h : nextV pre p = none) : nextV (pre ++ [x]) p = if 0 < cmpL (pathInts x.p) p then some (pathInts x.p) else none := by
  unfold nextV at h ⊢
  rw [Option.map_eq_none_iff] at h
  rw [List.find?_append, h]
  by_cases hc : 0 < cmpL (pathInts x.p) p <;> simp [hc]
theorem nextV_pre {pre xs : List Vis} {p : List Int} {q : List Int} (hp : pre <+: xs) (h : nextV pre p = some q) : nextV xs p = some q := by
  obtain ⟨t, rfl⟩ := hp
  unfold nextV at h ⊢
  rw [List.find?_append]
  cases hf : pre.find? (fun x => decide (0 < cmpL (pathInts x.p) p)) with
  | none => rw [hf] at h; cases h
  | some y => rw [hf] at h; simpa using h
theorem intsF_putObj {B : Nat} {W : World} {l : Nat} {o o' : Obj} {v : Value} {xs : List Int} (hl : W.heap[l]? = some o) (ho : o.isCells = false) (h : IntsF B W v xs) : IntsF B (W.putObj l o') v xs := by
  rcases h with h | ⟨b, off, cap, h1, h0, hB, h2, h3⟩
  · exact .inl h
  · refine .inr ⟨b, off, cap, h1, h0, hB, by simpa using h2, fun k hk => ?_⟩
    have hb : b ≠ l := by
      rintro rfl
      have := h3 k hk
      simp only [World.cell?, hl] at this
      cases o <;> simp [Obj.isCells] at ho this
    rw [World.cell?_of_block (w := W) (World.putObj_heap_other hb)]
    exact h3 k hk
theorem intsF_of {W : World} {v : Value} {xs : List Int} (h : IntsLie W v xs) : IntsF 0 W v xs := by
  rcases h with h | ⟨b, off, cap, h1, h2, h4, h5⟩
  · exact .inl h
  · exact .inr ⟨b, off, cap, h1, h2, Nat.zero_le _, h4, h5⟩
theorem intsF_mono {B B' : Nat} (hB : B' ≤ B) {W : World} {v : Value} {xs : List Int} (h : IntsF B W v xs) : IntsF B' W v xs := by
  rcases h with h | ⟨b, off, cap, h1, h2, h3, h4, h5⟩
  · exact .inl h
  · exact .inr ⟨b, off, cap, h1, h2, Nat.le_trans hB h3, h4, h5⟩
theorem path_len : ∀ {f : Fo} {pre : List Nat} {i : Nat} {x : Vis}, x ∈ seqAt pre i f → x.p.length ≤ pre.length + f.size
  | .nil, _, _, _, h => by simp [seqAt] at h
  | .cons h ks r, pre, i, x, hx => by
    simp only [seqAt, List.mem_cons, List.mem_append] at hx
    rcases hx with rfl | hx | hx
    · simp [Fo.size]
    · have := path_len hx
      simp [Fo.size] at this ⊢; omega
    · have := path_len hx
      simp [Fo.size] at this ⊢; omega
end Go.Proofs.YtcgedpfolloinaaGreat

namespace Go.Proofs.YtcgedpfolloinaaGreat
open Go.RowKit Go.Shelf
attribute [local go_sem] Oper.semAt_some

set_option maxRecDepth 100000 in
set_option maxHeartbeats 4000000 in
theorem next_in (f : Fo) (p : List Int) (v pv : Value) (w : World) (hl : Lies w v f) (hs : Small f) (hp : IntsLie w pv p) (hpl : p.length ≤ 1000000) (he : foErr f = 0) (hgo : ((placeF f p).isSome = true) ∨ p = []) :
    CallsIn Fence.wide 4 Tryz.prog 38 #[v, pv] w (NextRes w (nextF f p)) := by
  have hsz := hs.size
  have CH := Lib.hid (fun w1 (hw : Below w.heap.size w w1) => tcheck_any f v w1 (lies_below hl hw) hs)
  have TA := Lib.hid (fun w1 (hw : Below w.heap.size w w1) => treeAt_any f p v pv w1 (lies_below hl hw) (ints_below hp hw) hpl)
  have HL := Lib.hid hl
  have HP := Lib.hid hp
  obtain ⟨a, cap, rfl⟩ := lies_form hl
  obtain ⟨pa, pc, rfl⟩ := ints_form hp
  have HR := Lib.hid (show nextF f p = match nextV (seqAt [] 0 f) p with | none => ([], false, 0) | some q => (q, true, 0) from (if_neg (by simpa using he)).trans (if_neg (fun h => hgo.elim (fun h2 => by rw [h.1] at h2; cases h2) (fun h2 => h.2 h2))))
  rw [he] at CH
  clear hl hs hp he
  have N0 := NC.start w (.slice pa p.length pc)
  refine callsIn_of_wp_marks Tryz.func38 rfl trivial ?_ rfl
  simp only [Tryz.ntmps38, List.size_toArray, List.length_cons, List.length_nil, Nat.reduceAdd, Nat.reduceSub, Array.replicate_succ, Array.replicate_zero, List.push_toArray, List.append_toArray, List.nil_append, List.cons_append]
  gi_wp2_with fail
  generalize (((w.alloc (.cells #[.slice pa p.length pc] 41)).alloc (.cells #[.slice none 0 0] 41)).alloc (.cells #[.bool false] 4)).alloc (.cells #[.int .i64 0] 32) = W0 at *
  refine ⟨trivial, (callsIn_wide.2 (CH.out W0 N0.bel)).mono ?_⟩
  rintro e w1 ⟨rfl, hb1⟩
  have N1 := Lib.hid (N0.below hb1)
  clear N0 hb1
  obtain ⟨c0, c1, f1, c2, f2, c3, f3, size, bel⟩ := N1.out
  gi_wp2_with fail
  refine ⟨trivial, (callsIn_wide.2 (TA.out w1 bel)).mono ?_⟩
  rintro e w2 ⟨h, ks, aa, ca, ak, ck, rfl, -, -, -, hb2⟩
  unfold aggOf
  have N2 := Lib.hid (N1.out.below hb2)
  clear c0 c1 f1 c2 f2 c3 f3 size bel hb2
  obtain ⟨c0, c1, f1, c2, f2, c3, f3, size, bel⟩ := N2.out
  have z0 : w.heap.size < w2.heap.size := by omega
  have z1 : w.heap.size + 1 < w2.heap.size := by omega
  have z2 : w.heap.size + 1 + 1 < w2.heap.size := by omega
  have z3 : w.heap.size + 1 + 1 + 1 < w2.heap.size := by omega
  generalize hbs : (placeF f p).isSome = bs at *
  cases bs with
  | true =>
    gi_wp2_with (refine ⟨trivial, ?_⟩; gi_at_call 79; refine (trees_in _ _ _ _ _).mono ?_; rintro e w' ⟨rfl, rfl⟩)
    obtain ⟨W0, hW0⟩ : ∃ W0, (w2.alloc (.cells #[.int .i64 h.k, .string ⟨h.l.toArray⟩, .slice aa h.ats.length ca, .int .i64 h.n, .int .i64 h.d, .string ⟨h.x.toArray⟩, .slice ak ks.len ck] 43)).alloc (.cells #[.slice a f.len cap] 28) = W0 := ⟨_, rfl⟩
    have hz0 : W0.heap.size = w2.heap.size + 1 + 1 := by rw [← hW0]; simp
    have hx0 : Below w2.heap.size w2 W0 := by rw [← hW0]; exact ((Below.refl _ _).alloc (Nat.le_refl _) _).alloc (by simp) _
    have hN0 : NxI w (w2.heap.size + 1 + 1) p (.slice pa p.length pc) [] (fun k => k < w2.heap.size + 1 + 1) W0 := ⟨fun _ => Iff.rfl, N2.out.below hx0, rfl, by omega⟩
    have hB0 := hN0.nc.bel
    have hc0 : W0.cell? ⟨w2.heap.size + 1, 0, none⟩ = some (.slice a f.len cap) := by rw [← hW0]; simp [go_sem]
    rw [hW0]
    clear hW0 hx0 c0 c1 f1 c2 f2 c3 f3 bel z0 z1 z2 z3
    refine range_own (gf := 123) (lb := #[.pointer (some ⟨w2.heap.size + 1, 0, none⟩)]) rfl (enters_of Tryz.func123 (by kernel_rfl) rfl)
      (trees_seq f (.slice a f.len cap) w (w2.heap.size + 1) HL.out (by omega)) (by omega) ?st (fun x args W h => by obtain ⟨_, _, rfl, _⟩ := h; rfl)
      (NxI w (w2.heap.size + 1 + 1) p (.slice pa p.length pc)) (fun c pre W => c = .ret ∧ NxX w (w2.heap.size + 1 + 1) p (.slice pa p.length pc) pre W) (fun k => k < w2.heap.size + 1 + 1) ?hI ?hIs ?hIx (fun k hk => by omega) hN0
      (fun x a' W => ∃ (b0 : Option Addr) (c0 : Nat) (pv' tv : Value) (u0 u1 u2 u7 u8 u9 u11 u12 u13 u14 u15 u16 u17 u18 u19 u20 u21 u22 u23 u24 u25 u26 u27 u28 u29 u30 : Value), x ∈ seqAt [] 0 f ∧ IntsF 0 W (.slice b0 x.p.length c0) (pathInts x.p) ∧ a' = { tmps := #[u0, u1, u2, .pointer (some ⟨w.heap.size, 0, none⟩), .pointer (some ⟨w.heap.size + 1, 0, none⟩), .pointer (some ⟨w.heap.size + 1 + 1, 0, none⟩), .pointer (some ⟨w.heap.size + 1 + 1 + 1, 0, none⟩), u7, u8, u9, .slice b0 x.p.length c0, u11, u12, u13, u14, u15, u16, u17, u18, u19, u20, u21, u22, u23, u24, u25, u26, u27, u28, u29, u30, pv', tv, undef, undef, undef, undef, undef, undef], defers := [] })
      (fun x a' W l o o' hl ho h => by
        obtain ⟨b0, c0, pv', tv, u0, u1, u2, u7, u8, u9, u11, u12, u13, u14, u15, u16, u17, u18, u19, u20, u21, u22, u23, u24, u25, u26, u27, u28, u29, u30, h1, h2, h3⟩ := h
        exact ⟨b0, c0, pv', tv, u0, u1, u2, u7, u8, u9, u11, u12, u13, u14, u15, u16, u17, u18, u19, u20, u21, u22, u23, u24, u25, u26, u27, u28, u29, u30, h1, intsF_putObj hl ho h2, h3⟩) ?assign ?body ?done ?stop
    case st =>
      intro o
      refine ⟨hB0.trans ((((Below.refl _ W0).alloc (Nat.le_refl _) _).alloc (by simp) _).mono hB0.size), ?_⟩
      simp [go_sem, hz0, hc0]
    case hI => exact fun s G W W' h sp => h.spared sp (by omega)
    case hIs =>
      rintro s G W ⟨g, nc, no, size⟩ k hk
      have := (g k).1 hk; omega
    case hIx =>
      rintro c s W l o o' hl ho hc ⟨rfl, ⟨q, a, cap, hq, nc, hi⟩, size⟩
      exact ⟨rfl, ⟨q, a, cap, hq, nc.same (fun k _ hk => World.putObj_heap_other (by omega)) (by simp) (nc.bel.trans ⟨rfl, rfl, rfl, by simp, fun k hk => World.putObj_heap_other (by omega)⟩), intsF_putObj ho hc hi⟩, by simpa using size⟩
    case assign =>
      rintro n' l pre x args G W K hI ⟨pv', tv, rfl, hp, ht, hx⟩ hz hK
      obtain ⟨b0, c0, rfl⟩ := ints_form hp
      have hp2 := intsF_of hp
      simp only [List.length_map] at hp2 ⊢
      clear hp
      gi_wp2
      exact hK _ _ (But.refl _ _) (Below.refl _ _) hI ⟨b0, c0, _, tv, _, _, _, _, _, _, _, _, _, _, _, _, _, _, _, _, _, _, _, _, _, _, _, _, _, _, hx, hp2, rfl⟩
    case body =>
      rintro n' l pre x a' G W ⟨g, nc, no, size⟩ ⟨b0, c0, pv', tv, u0, u1, u2, u7, u8, u9, u11, u12, u13, u14, u15, u16, u17, u18, u19, u20, u21, u22, u23, u24, u25, u26, u27, u28, u29, u30, hx, hpi, rfl⟩ hz
      have hG1 : G (w.heap.size + 1) := (g _).2 (by omega)
      have hG2 : G (w.heap.size + 1 + 1) := (g _).2 (by omega)
      have hG3 : G (w.heap.size + 1 + 1 + 1) := (g _).2 (by omega)
      have HG := Lib.hid g
      have hpl2 := path_len hx
      have hxl : (pathInts x.p).length ≤ 1000000 := by simp at hpl2 ⊢; omega
      have CM := Lib.hid (compareInts_any (pathInts x.p) p _ _ W (intsF_lies hpi) (ints_below HP.out nc.bel) hxl hpl)
      have CL := Lib.hid (cloneInts_any _ (pathInts x.p) W (intsF_lies hpi) hxl)
      have HNV := Lib.hid (nextV_snoc (x := x) no)
      have NCC := Lib.hid nc
      have HXL := Lib.hid (show (pathInts x.p).length = x.p.length by simp)
      clear g no hx hpl2 hxl
      obtain ⟨c0', c1, f1, c2, f2, c3, f3, size', bel⟩ := nc
      gi_wp2_with fail
      refine ⟨trivial, fun h => (by cases h), (CallsIn.inRound l (callsIn_wide.2 CM.out)).mono ?_⟩
      rintro e w3 ⟨rfl, rfl⟩
      generalize cmpL (pathInts x.p) p = c at *
      by_cases hc : 0 < c
      · have dc : decide (0 < c) = true := by simpa using hc
        have HNX := Lib.hid (HNV.out.trans (if_pos hc))
        clear hc
        gi_wp2_with fail
        refine ⟨trivial, fun h => (by cases h), (CallsIn.inRound l (callsIn_wide.2 CL.out)).mono ?_⟩
        rintro e w4 ⟨v4, rfl, hi4, hb4⟩
        obtain ⟨a4, cap4, rfl⟩ := intsF_form hi4
        have N4 := Lib.hid (NCC.out.below hb4)
        have hs4 := hb4.size
        have HB4 := Lib.hid hb4
        have HI4 := Lib.hid hi4
        clear c0' c1 f1 c2 f2 c3 f3 size' bel hb4 hi4
        obtain ⟨c0', c1, f1, c2, f2, c3, f3, size', bel⟩ := N4.out
        gi_wp2_with fail
        have N5 := N4.out.set3 (.slice a4 x.p.length cap4) (.bool true) (.int .i64 0)
        have hkp := ((Keeps.setCell (B := w.heap.size + 4) w4 (b := w.heap.size + 1) (by omega) 0 (.slice a4 x.p.length cap4)).trans (Keeps.setCell _ (b := w.heap.size + 1 + 1) (by omega) 0 (.bool true))).trans (Keeps.setCell _ (b := w.heap.size + 1 + 1 + 1) (by omega) 0 (.int .i64 0))
        have hi5 := intsF_keeps (intsF_mono (B' := w.heap.size + 4) (by have := NCC.out.size; omega) HI4.out) hkp
        have hz5 := hkp.1
        exact ⟨(((But.of_below HB4.out).trans (But.setCell _ hG1 _)).trans (But.setCell _ hG2 _)).trans (But.setCell _ hG3 _), rfl, ⟨pathInts x.p, a4, cap4, HNX.out, by rw [HXL.out]; exact N5, hi5⟩, by omega⟩
      · have dc : decide (0 < c) = false := by simpa using hc
        have HNX := Lib.hid (HNV.out.trans (if_neg hc))
        clear hc
        gi_wp2_with fail
        exact ⟨But.refl _ _, Below.refl _ _, G, fun k hk => .inl hk, HG.out, NCC.out, HNX.out, size⟩
    case done =>
      rintro D ys G W hD rfl ⟨g, nc, no, size⟩ hK
      have NCC := Lib.hid nc
      obtain ⟨c0, c1, f1, c2, f2, c3, f3, size', bel⟩ := nc
      gi_wp2
      have HN := Lib.hid (show nextF f p = ([], false, 0) by rw [HR.out, no])
      clear c0 c1 f1 c2 f2 c3 f3 bel
      have hK2 : (((W.setCell ⟨w.heap.size + 1, 0, none⟩ (.slice none 0 0)).setCell ⟨w.heap.size + 1 + 1, 0, none⟩ (.bool false)).setCell ⟨w.heap.size + 1 + 1 + 1, 0, none⟩ (.int .i64 0)).heap[D]? = some (.deferred (some [])) := (((KeepsOthers.setCell W _ _).trans (KeepsOthers.setCell _ _ _)).trans (KeepsOthers.setCell _ _ _)).same D _ hK rfl
      refine ⟨by simp, .inl ⟨_, _, rfl, run_takeDeferred hK2, ?_⟩⟩
      have hb2 := belowK_b (w := W0) (Nat.le_refl _) _ D _ (.deferred none) (by simpa using hD) hK2 rfl rfl
      have N3 := NCC.out.set3 (.slice none 0 0) (.bool false) (.int .i64 0)
      have N4 := N3.same (fun k _ hk => hb2.block k (by omega)) hb2.size (N3.bel.trans (hb2.mono (by omega)))
      generalize (((W.setCell ⟨w.heap.size + 1, 0, none⟩ (.slice none 0 0)).setCell ⟨w.heap.size + 1 + 1, 0, none⟩ (.bool false)).setCell ⟨w.heap.size + 1 + 1 + 1, 0, none⟩ (.int .i64 0)).putObj D (.deferred none) = Wf at N4 ⊢
      obtain ⟨c0, c1, f1, c2, f2, c3, f3, size', bel⟩ := N4
      refine ⟨.tuple #[.slice none 0 0, .bool false, .int .i64 0], by simp (maxDischargeDepth := 8) [results, go_sem, Tryz.results38, c1, c2, c3], ?_⟩
      rw [HN.out]
      exact ⟨none, 0, rfl, .inl ⟨_, _, rfl, rfl⟩, bel⟩
    case stop =>
      rintro D c pre W hD hp ⟨rfl, ⟨q, aq, capq, hq, nc, hi⟩, size⟩ hK
      have HN := Lib.hid (show nextF f p = (q, true, 0) by rw [HR.out, nextV_pre hp hq])
      gi_wp2
      refine ⟨by simp, .inl ⟨_, _, rfl, run_takeDeferred hK, ?_⟩⟩
      have hb2 := belowK_b (w := W0) (Nat.le_refl _) _ D _ (.deferred none) (by simpa using hD) hK rfl rfl
      have N4 := nc.same (fun k _ hk => hb2.block k (by omega)) hb2.size (nc.bel.trans (hb2.mono (by omega)))
      have hi4 := intsF_putObj (o' := .deferred none) hK rfl hi
      generalize W.putObj D (.deferred none) = Wf at N4 hi4 ⊢
      obtain ⟨c0, c1, f1, c2, f2, c3, f3, size', bel⟩ := N4
      refine ⟨.tuple #[.slice aq q.length capq, .bool true, .int .i64 0], by simp (maxDischargeDepth := 8) [results, go_sem, Tryz.results38, c1, c2, c3], ?_⟩
      rw [HN.out]
      exact ⟨aq, capq, rfl, intsF_mono (by omega) hi4, bel⟩
  | false =>
    have hp0 : p = [] := hgo.resolve_left (by decide)
    have hpd : decide ((0 : Int) < (p.length : Int)) = false := decide_eq_false (by rw [hp0]; simp)
    have hpd2 : decide (0 < p.length) = false := decide_eq_false (by rw [hp0]; simp)
    clear hp0
    gi_wp2_with (refine ⟨trivial, ?_⟩; gi_at_call 79; refine (trees_in _ _ _ _ _).mono ?_; rintro e w' ⟨rfl, rfl⟩)
    obtain ⟨W0, hW0⟩ : ∃ W0, (w2.alloc (.cells #[.int .i64 h.k, .string ⟨h.l.toArray⟩, .slice aa h.ats.length ca, .int .i64 h.n, .int .i64 h.d, .string ⟨h.x.toArray⟩, .slice ak ks.len ck] 43)).alloc (.cells #[.slice a f.len cap] 28) = W0 := ⟨_, rfl⟩
    have hz0 : W0.heap.size = w2.heap.size + 1 + 1 := by rw [← hW0]; simp
    have hx0 : Below w2.heap.size w2 W0 := by rw [← hW0]; exact ((Below.refl _ _).alloc (Nat.le_refl _) _).alloc (by simp) _
    have hN0 : NxI w (w2.heap.size + 1 + 1) p (.slice pa p.length pc) [] (fun k => k < w2.heap.size + 1 + 1) W0 := ⟨fun _ => Iff.rfl, N2.out.below hx0, rfl, by omega⟩
    have hB0 := hN0.nc.bel
    have hc0 : W0.cell? ⟨w2.heap.size + 1, 0, none⟩ = some (.slice a f.len cap) := by rw [← hW0]; simp [go_sem]
    rw [hW0]
    clear hW0 hx0 c0 c1 f1 c2 f2 c3 f3 bel z0 z1 z2 z3
    refine range_own (gf := 123) (lb := #[.pointer (some ⟨w2.heap.size + 1, 0, none⟩)]) rfl (enters_of Tryz.func123 (by kernel_rfl) rfl)
      (trees_seq f (.slice a f.len cap) w (w2.heap.size + 1) HL.out (by omega)) (by omega) ?st (fun x args W h => by obtain ⟨_, _, rfl, _⟩ := h; rfl)
      (NxI w (w2.heap.size + 1 + 1) p (.slice pa p.length pc)) (fun c pre W => c = .ret ∧ NxX w (w2.heap.size + 1 + 1) p (.slice pa p.length pc) pre W) (fun k => k < w2.heap.size + 1 + 1) ?hI ?hIs ?hIx (fun k hk => by omega) hN0
      (fun x a' W => ∃ (b0 : Option Addr) (c0 : Nat) (pv' tv : Value) (u0 u1 u2 u7 u8 u9 u11 u12 u13 u14 u15 u16 u17 u18 u19 u20 u21 u22 u23 u24 u25 u26 u27 u28 u29 u30 : Value), x ∈ seqAt [] 0 f ∧ IntsF 0 W (.slice b0 x.p.length c0) (pathInts x.p) ∧ a' = { tmps := #[u0, u1, u2, .pointer (some ⟨w.heap.size, 0, none⟩), .pointer (some ⟨w.heap.size + 1, 0, none⟩), .pointer (some ⟨w.heap.size + 1 + 1, 0, none⟩), .pointer (some ⟨w.heap.size + 1 + 1 + 1, 0, none⟩), u7, u8, u9, .slice b0 x.p.length c0, u11, u12, u13, u14, u15, u16, u17, u18, u19, u20, u21, u22, u23, u24, u25, u26, u27, u28, u29, u30, pv', tv, undef, undef, undef, undef, undef, undef], defers := [] })
      (fun x a' W l o o' hl ho h => by
        obtain ⟨b0, c0, pv', tv, u0, u1, u2, u7, u8, u9, u11, u12, u13, u14, u15, u16, u17, u18, u19, u20, u21, u22, u23, u24, u25, u26, u27, u28, u29, u30, h1, h2, h3⟩ := h
        exact ⟨b0, c0, pv', tv, u0, u1, u2, u7, u8, u9, u11, u12, u13, u14, u15, u16, u17, u18, u19, u20, u21, u22, u23, u24, u25, u26, u27, u28, u29, u30, h1, intsF_putObj hl ho h2, h3⟩) ?assign ?body ?done ?stop
    case st =>
      intro o
      refine ⟨hB0.trans ((((Below.refl _ W0).alloc (Nat.le_refl _) _).alloc (by simp) _).mono hB0.size), ?_⟩
      simp [go_sem, hz0, hc0]
    case hI => exact fun s G W W' h sp => h.spared sp (by omega)
    case hIs =>
      rintro s G W ⟨g, nc, no, size⟩ k hk
      have := (g k).1 hk; omega
    case hIx =>
      rintro c s W l o o' hl ho hc ⟨rfl, ⟨q, a, cap, hq, nc, hi⟩, size⟩
      exact ⟨rfl, ⟨q, a, cap, hq, nc.same (fun k _ hk => World.putObj_heap_other (by omega)) (by simp) (nc.bel.trans ⟨rfl, rfl, rfl, by simp, fun k hk => World.putObj_heap_other (by omega)⟩), intsF_putObj ho hc hi⟩, by simpa using size⟩
    case assign =>
      rintro n' l pre x args G W K hI ⟨pv', tv, rfl, hp, ht, hx⟩ hz hK
      obtain ⟨b0, c0, rfl⟩ := ints_form hp
      have hp2 := intsF_of hp
      simp only [List.length_map] at hp2 ⊢
      clear hp
      gi_wp2
      exact hK _ _ (But.refl _ _) (Below.refl _ _) hI ⟨b0, c0, _, tv, _, _, _, _, _, _, _, _, _, _, _, _, _, _, _, _, _, _, _, _, _, _, _, _, _, _, hx, hp2, rfl⟩
    case body =>
      rintro n' l pre x a' G W ⟨g, nc, no, size⟩ ⟨b0, c0, pv', tv, u0, u1, u2, u7, u8, u9, u11, u12, u13, u14, u15, u16, u17, u18, u19, u20, u21, u22, u23, u24, u25, u26, u27, u28, u29, u30, hx, hpi, rfl⟩ hz
      have hG1 : G (w.heap.size + 1) := (g _).2 (by omega)
      have hG2 : G (w.heap.size + 1 + 1) := (g _).2 (by omega)
      have hG3 : G (w.heap.size + 1 + 1 + 1) := (g _).2 (by omega)
      have HG := Lib.hid g
      have hpl2 := path_len hx
      have hxl : (pathInts x.p).length ≤ 1000000 := by simp at hpl2 ⊢; omega
      have CM := Lib.hid (compareInts_any (pathInts x.p) p _ _ W (intsF_lies hpi) (ints_below HP.out nc.bel) hxl hpl)
      have CL := Lib.hid (cloneInts_any _ (pathInts x.p) W (intsF_lies hpi) hxl)
      have HNV := Lib.hid (nextV_snoc (x := x) no)
      have NCC := Lib.hid nc
      have HXL := Lib.hid (show (pathInts x.p).length = x.p.length by simp)
      clear g no hx hpl2 hxl
      obtain ⟨c0', c1, f1, c2, f2, c3, f3, size', bel⟩ := nc
      gi_wp2_with fail
      refine ⟨trivial, fun h => (by cases h), (CallsIn.inRound l (callsIn_wide.2 CM.out)).mono ?_⟩
      rintro e w3 ⟨rfl, rfl⟩
      generalize cmpL (pathInts x.p) p = c at *
      by_cases hc : 0 < c
      · have dc : decide (0 < c) = true := by simpa using hc
        have HNX := Lib.hid (HNV.out.trans (if_pos hc))
        clear hc
        gi_wp2_with fail
        refine ⟨trivial, fun h => (by cases h), (CallsIn.inRound l (callsIn_wide.2 CL.out)).mono ?_⟩
        rintro e w4 ⟨v4, rfl, hi4, hb4⟩
        obtain ⟨a4, cap4, rfl⟩ := intsF_form hi4
        have N4 := Lib.hid (NCC.out.below hb4)
        have hs4 := hb4.size
        have HB4 := Lib.hid hb4
        have HI4 := Lib.hid hi4
        clear c0' c1 f1 c2 f2 c3 f3 size' bel hb4 hi4
        obtain ⟨c0', c1, f1, c2, f2, c3, f3, size', bel⟩ := N4.out
        gi_wp2_with fail
        have N5 := N4.out.set3 (.slice a4 x.p.length cap4) (.bool true) (.int .i64 0)
        have hkp := ((Keeps.setCell (B := w.heap.size + 4) w4 (b := w.heap.size + 1) (by omega) 0 (.slice a4 x.p.length cap4)).trans (Keeps.setCell _ (b := w.heap.size + 1 + 1) (by omega) 0 (.bool true))).trans (Keeps.setCell _ (b := w.heap.size + 1 + 1 + 1) (by omega) 0 (.int .i64 0))
        have hi5 := intsF_keeps (intsF_mono (B' := w.heap.size + 4) (by have := NCC.out.size; omega) HI4.out) hkp
        have hz5 := hkp.1
        exact ⟨(((But.of_below HB4.out).trans (But.setCell _ hG1 _)).trans (But.setCell _ hG2 _)).trans (But.setCell _ hG3 _), rfl, ⟨pathInts x.p, a4, cap4, HNX.out, by rw [HXL.out]; exact N5, hi5⟩, by omega⟩
      · have dc : decide (0 < c) = false := by simpa using hc
        have HNX := Lib.hid (HNV.out.trans (if_neg hc))
        clear hc
        gi_wp2_with fail
        exact ⟨But.refl _ _, Below.refl _ _, G, fun k hk => .inl hk, HG.out, NCC.out, HNX.out, size⟩
    case done =>
      rintro D ys G W hD rfl ⟨g, nc, no, size⟩ hK
      have NCC := Lib.hid nc
      obtain ⟨c0, c1, f1, c2, f2, c3, f3, size', bel⟩ := nc
      gi_wp2
      have HN := Lib.hid (show nextF f p = ([], false, 0) by rw [HR.out, no])
      clear c0 c1 f1 c2 f2 c3 f3 bel
      have hK2 : (((W.setCell ⟨w.heap.size + 1, 0, none⟩ (.slice none 0 0)).setCell ⟨w.heap.size + 1 + 1, 0, none⟩ (.bool false)).setCell ⟨w.heap.size + 1 + 1 + 1, 0, none⟩ (.int .i64 0)).heap[D]? = some (.deferred (some [])) := (((KeepsOthers.setCell W _ _).trans (KeepsOthers.setCell _ _ _)).trans (KeepsOthers.setCell _ _ _)).same D _ hK rfl
      refine ⟨by simp, .inl ⟨_, _, rfl, run_takeDeferred hK2, ?_⟩⟩
      have hb2 := belowK_b (w := W0) (Nat.le_refl _) _ D _ (.deferred none) (by simpa using hD) hK2 rfl rfl
      have N3 := NCC.out.set3 (.slice none 0 0) (.bool false) (.int .i64 0)
      have N4 := N3.same (fun k _ hk => hb2.block k (by omega)) hb2.size (N3.bel.trans (hb2.mono (by omega)))
      generalize (((W.setCell ⟨w.heap.size + 1, 0, none⟩ (.slice none 0 0)).setCell ⟨w.heap.size + 1 + 1, 0, none⟩ (.bool false)).setCell ⟨w.heap.size + 1 + 1 + 1, 0, none⟩ (.int .i64 0)).putObj D (.deferred none) = Wf at N4 ⊢
      obtain ⟨c0, c1, f1, c2, f2, c3, f3, size', bel⟩ := N4
      refine ⟨.tuple #[.slice none 0 0, .bool false, .int .i64 0], by simp (maxDischargeDepth := 8) [results, go_sem, Tryz.results38, c1, c2, c3], ?_⟩
      rw [HN.out]
      exact ⟨none, 0, rfl, .inl ⟨_, _, rfl, rfl⟩, bel⟩
    case stop =>
      rintro D c pre W hD hp ⟨rfl, ⟨q, aq, capq, hq, nc, hi⟩, size⟩ hK
      have HN := Lib.hid (show nextF f p = (q, true, 0) by rw [HR.out, nextV_pre hp hq])
      gi_wp2
      refine ⟨by simp, .inl ⟨_, _, rfl, run_takeDeferred hK, ?_⟩⟩
      have hb2 := belowK_b (w := W0) (Nat.le_refl _) _ D _ (.deferred none) (by simpa using hD) hK rfl rfl
      have N4 := nc.same (fun k _ hk => hb2.block k (by omega)) hb2.size (nc.bel.trans (hb2.mono (by omega)))
      have hi4 := intsF_putObj (o' := .deferred none) hK rfl hi
      generalize W.putObj D (.deferred none) = Wf at N4 hi4 ⊢
      obtain ⟨c0, c1, f1, c2, f2, c3, f3, size', bel⟩ := N4
      refine ⟨.tuple #[.slice aq q.length capq, .bool true, .int .i64 0], by simp (maxDischargeDepth := 8) [results, go_sem, Tryz.results38, c1, c2, c3], ?_⟩
      rw [HN.out]
      exact ⟨aq, capq, rfl, intsF_mono (by omega) hi4, bel⟩

theorem next_any (f : Fo) (p : List Int) (v pv : Value) (w : World) (hl : Lies w v f) (hs : Small f) (hp : IntsLie w pv p) (hpl : p.length ≤ 1000000) :
    Calls Tryz.prog 38 #[v, pv] w (NextRes w (nextF f p)) := by
  by_cases he : foErr f = 0
  · by_cases h : (placeF f p).isSome = false ∧ p ≠ []
    · exact next_absent f p v pv w hl hs hp hpl he h.1 h.2
    · refine callsIn_wide.1 (next_in f p v pv w hl hs hp hpl he ?_)
      by_cases hp0 : p = []
      · exact .inr hp0
      · refine .inl ?_
        cases hq : (placeF f p).isSome with
        | true => rfl
        | false => exact absurd ⟨hq, hp0⟩ h
  · exact next_err f p v pv w hl hs hp he
end Go.Proofs.YtcgedpfolloinaaGreat

namespace Go.Proofs.YtcgedpfolloinaaGreat
open Go.RowKit

def hdVal (h : Hd) (aa : Option Addr) (ca : Nat) : Value := .agg #[.int .i64 h.k, .string ⟨h.l.toArray⟩, .slice aa h.ats.length ca, .int .i64 h.n, .int .i64 h.d, .string ⟨h.x.toArray⟩]

set_option maxRecDepth 100000 in
set_option maxHeartbeats 2000000 in
theorem sameHead_refl (h : Hd) (aa : Option Addr) (ca : Nat) (ab : Option Addr) (cb : Nat) (w : World) (ha : AttrsLie w (.slice aa h.ats.length ca) h.ats) (hb : AttrsLie w (.slice ab h.ats.length cb) h.ats) :
    Calls Tryz.prog 63 #[hdVal h aa ca, hdVal h ab cb] w fun e w' => e = .returned (.bool true) ∧ Below w.heap.size w w' := by
  have HA := Lib.hid ha
  have HB := Lib.hid hb
  have hal : h.ats.length ≤ 4398046510976 := by
    rcases ha with ⟨_, _, _, h0⟩ | ⟨_, _, _, _, _, h0, _⟩
    · rw [h0]; simp
    · exact h0
  clear ha hb
  unfold hdVal
  go_enter Tryz.func63, Tryz.ntmps63
  go_wp2_with fail
  go_loopw [5] (fun i wr => ∃ k : Nat, i = .int .i64 k ∧ k ≤ h.ats.length ∧ wr.cell? ⟨w.heap.size, 2, none⟩ = some (.slice aa h.ats.length ca) ∧ wr.cell? ⟨w.heap.size + 1, 2, none⟩ = some (.slice ab h.ats.length cb) ∧ w.heap.size + 1 < wr.heap.size ∧ Below w.heap.size w wr) (fun i _ => h.ats.length - (intOf i).toNat)
  case atStart => exact ⟨0, rfl, Nat.zero_le _, by simp [go_sem], by simp [go_sem], by simp, by ((repeat' (first | exact Below.refl _ _ | assumption | refine Below.setCell ?_ ?_ _ | refine bdrewN ?_ _ | refine Below.drew ?_ | refine Below.alloc ?_ ?_ _ | refine bbehind ?_ (by assumption) ?_)); all_goals first | (simp; done) | (simp; omega) | omega)⟩
  case round =>
    obtain ⟨k, rfl, hk, c1, c2, hsz, hbw⟩ := hrel
    have hz0 : w.heap.size < wr.heap.size := by omega
    by_cases hlt : k < h.ats.length
    · have dk : decide (k < h.ats.length) = true := by simpa using hlt
      obtain ⟨ba, oa, capa, hs, -, -, hba, hca⟩ := attrs_row HA.out (by omega)
      simp only [Value.slice.injEq] at hs
      obtain ⟨rfl, -, rfl⟩ := hs
      obtain ⟨bb, ob, capb, hs, -, -, hbb, hcb⟩ := attrs_row HB.out (by omega)
      simp only [Value.slice.injEq] at hs
      obtain ⟨rfl, -, rfl⟩ := hs
      obtain ⟨q1, q2⟩ := hca k hlt
      obtain ⟨q3, q4⟩ := hcb k hlt
      have q1 := (hbw.cell (p := ⟨ba, oa + k * 2, none⟩) hba).trans q1
      have q2 := (hbw.cell (p := ⟨ba, oa + k * 2 + 1, none⟩) hba).trans q2
      have q3 := (hbw.cell (p := ⟨bb, ob + k * 2, none⟩) hbb).trans q3
      have q4 := (hbw.cell (p := ⟨bb, ob + k * 2 + 1, none⟩) hbb).trans q4
      have k1 : ba < wr.heap.size := by omega
      have k2 : bb < wr.heap.size := by omega
      clear hca hcb
      generalize (h.ats.getD k ([], [])).1 = nm at *
      generalize (h.ats.getD k ([], [])).2 = vl at *
      go_wp2_with fail
      refine wp_region_quiet_all (fun w' => ∃ x : Lower _, w' = x.val) (by kernel_rfl) (by kernel_rfl) ⟨⟨_, (Below.refl _ _).drew⟩, rfl⟩ ?_
      repeat (go_big_quiet_step (fail))
      refine wpQuiet_nil ?_
      intro w2 hx2
      obtain ⟨x2, hx2⟩ := hx2
      have hb2 := x2.prop
      rw [← hx2] at hb2
      clear hx2 x2
      obtain ⟨hc2, hf2⟩ := bcell hb2
      have hs2 := hb2.size
      try simp at hs2
      try have hz20 : w.heap.size < w2.heap.size := by omega
      try have hz21 : w.heap.size + 1 < w2.heap.size := by omega
      try have hz22 : w.heap.size + 1 + 1 < w2.heap.size := by omega
      try have hz23 : w.heap.size + 1 + 1 + 1 < w2.heap.size := by omega
      try have hz24 : w.heap.size + 1 + 1 + 1 + 1 < w2.heap.size := by omega
      try have hz25 : w.heap.size + 1 + 1 + 1 + 1 + 1 < w2.heap.size := by omega
      try have hy1_2 : w1.heap.size < w2.heap.size := by omega
      go_wp2_with fail
      go_roundw
      case rel => exact ⟨k + 1, by go_num, by omega, by rw [hc2 _ _ hz0]; exact c1, by rw [hc2 _ _ hsz]; exact c2, by omega, hbw.trans (hb2.mono hbw.size)⟩
      case measure => simp [intOf]; omega
    · have dk : decide (k < h.ats.length) = false := by simpa using hlt
      go_wp2_with fail
      go_ret
      exact ⟨rfl, hbw⟩

set_option maxRecDepth 100000 in
set_option maxHeartbeats 2000000 in
theorem same_of (f : Fo) (v u : Value) (w : World) (hl : Lies w v f) (hg : Lies w u f)
    (HK : ∀ k h ks, k < f.len → f.drop k = .cons h ks (f.drop (k + 1)) → ∀ v u w, Lies w v ks → Lies w u ks → Calls Tryz.prog 35 #[v, u] w fun e w' => e = .returned (.bool true) ∧ Below w.heap.size w w') :
    Calls Tryz.prog 35 #[v, u] w fun e w' => e = .returned (.bool true) ∧ Below w.heap.size w w' := by
  have HL := Lib.hid hl
  have HG := Lib.hid hg
  have HKK := Lib.hid HK
  have hfl := lies_len hl
  obtain ⟨a, cap, rfl⟩ := lies_form hl
  obtain ⟨a', cap', rfl⟩ := lies_form hg
  clear hl hg HK
  go_enter Tryz.func35, Tryz.ntmps35
  go_wp2_with fail
  go_loopw [5] (fun i wr => ∃ k : Nat, i = .int .i64 k ∧ k ≤ f.len ∧ Below w.heap.size w wr) (fun i _ => f.len - (intOf i).toNat)
  case atStart => exact ⟨0, rfl, Nat.zero_le _, Below.refl _ _⟩
  case round =>
    obtain ⟨k, rfl, hk, hbw⟩ := hrel
    have hsz := hbw.size
    by_cases hlt : k < f.len
    · have dk : decide (k < f.len) = true := by simpa using hlt
      obtain ⟨bf, of, cp, hs, -, -, hbf, hrow⟩ := lies_row HL.out (by omega)
      simp only [Value.slice.injEq] at hs
      obtain ⟨rfl, -, rfl⟩ := hs
      obtain ⟨bg, og, cp', hs, -, -, hbg, hrow'⟩ := lies_row HG.out (by omega)
      simp only [Value.slice.injEq] at hs
      obtain ⟨rfl, -, rfl⟩ := hs
      obtain ⟨hd, ks, e, ⟨qa0, qa1, ⟨va, qa2, ha⟩, qa3, qa4, qa5⟩, vk, qa6, hlk⟩ := row_get hrow hlt
      obtain ⟨hd', ks', e', ⟨qb0, qb1, ⟨vb, qb2, hb⟩, qb3, qb4, qb5⟩, vl, qb6, hlk'⟩ := row_get hrow' hlt
      rw [e] at e'
      cases e'
      obtain ⟨aa, ca, rfl⟩ := attrs_form ha
      obtain ⟨ab, cb, rfl⟩ := attrs_form hb
      obtain ⟨ak, ck, rfl⟩ := lies_form hlk
      obtain ⟨al, cl, rfl⟩ := lies_form hlk'
      have ra0 := (hbw.cell (p := ⟨bf, of + k * 7, none⟩) hbf).trans qa0
      have ra1 := (hbw.cell (p := ⟨bf, of + k * 7 + 1, none⟩) hbf).trans qa1
      have ra2 := (hbw.cell (p := ⟨bf, of + k * 7 + 2, none⟩) hbf).trans qa2
      have ra3 := (hbw.cell (p := ⟨bf, of + k * 7 + 3, none⟩) hbf).trans qa3
      have ra4 := (hbw.cell (p := ⟨bf, of + k * 7 + 4, none⟩) hbf).trans qa4
      have ra5 := (hbw.cell (p := ⟨bf, of + k * 7 + 5, none⟩) hbf).trans qa5
      have ra6 := (hbw.cell (p := ⟨bf, of + k * 7 + 6, none⟩) hbf).trans qa6
      have rb0 := (hbw.cell (p := ⟨bg, og + k * 7, none⟩) hbg).trans qb0
      have rb1 := (hbw.cell (p := ⟨bg, og + k * 7 + 1, none⟩) hbg).trans qb1
      have rb2 := (hbw.cell (p := ⟨bg, og + k * 7 + 2, none⟩) hbg).trans qb2
      have rb3 := (hbw.cell (p := ⟨bg, og + k * 7 + 3, none⟩) hbg).trans qb3
      have rb4 := (hbw.cell (p := ⟨bg, og + k * 7 + 4, none⟩) hbg).trans qb4
      have rb5 := (hbw.cell (p := ⟨bg, og + k * 7 + 5, none⟩) hbg).trans qb5
      have rb6 := (hbw.cell (p := ⟨bg, og + k * 7 + 6, none⟩) hbg).trans qb6
      have k1 : bf < wr.heap.size := by omega
      have k2 : bg < wr.heap.size := by omega
      have SH := Lib.hid (fun (x : Lower wr) => calls_lower x (sameHead_refl hd aa ca ab cb x.val (attrs_below (attrs_below ha hbw) x.prop) (attrs_below (attrs_below hb hbw) x.prop)))
      have SK := Lib.hid (fun (x : Lower wr) => calls_lower x (HKK.out k hd ks hlt e _ _ x.val (lies_below (lies_below hlk hbw) x.prop) (lies_below (lies_below hlk' hbw) x.prop)))
      unfold hdVal at SH
      clear e hrow hrow' ha hb hlk hlk' qa0 qa1 qa2 qa3 qa4 qa5 qa6 qb0 qb1 qb2 qb3 qb4 qb5 qb6
      go_wp2_with fail
      refine wp_region_quiet_all (fun w' => ∃ x : Lower _, w' = x.val) (by kernel_rfl) (by kernel_rfl) ⟨⟨_, (Below.refl _ _).drew⟩, rfl⟩ ?_
      repeat (go_big_quiet_step (first | (go_at_call 63; exact SH.out _) | (go_at_call 35; exact SK.out _)))
      refine wpQuiet_nil ?_
      intro w2 hx2
      obtain ⟨x2, hx2⟩ := hx2
      have hb2 := x2.prop
      rw [← hx2] at hb2
      clear hx2 x2
      obtain ⟨hc2, hf2⟩ := bcell hb2
      have hs2 := hb2.size
      try simp at hs2
      try have hz20 : w.heap.size < w2.heap.size := by omega
      try have hz21 : w.heap.size + 1 < w2.heap.size := by omega
      try have hz22 : w.heap.size + 1 + 1 < w2.heap.size := by omega
      try have hz23 : w.heap.size + 1 + 1 + 1 < w2.heap.size := by omega
      try have hz24 : w.heap.size + 1 + 1 + 1 + 1 < w2.heap.size := by omega
      try have hz25 : w.heap.size + 1 + 1 + 1 + 1 + 1 < w2.heap.size := by omega
      try have hy1_2 : w1.heap.size < w2.heap.size := by omega
      go_wp2_with fail
      go_roundw
      case rel => exact ⟨k + 1, by go_num, by omega, hbw.trans (hb2.mono hbw.size)⟩
      case measure => simp [intOf]; omega
    · have dk : decide (k < f.len) = false := by simpa using hlt
      go_wp2_with fail
      go_ret
      exact ⟨rfl, hbw⟩
theorem same_refl : ∀ (N : Nat) (f : Fo), f.size ≤ N → ∀ (v u : Value) (w : World), Lies w v f → Lies w u f → Calls Tryz.prog 35 #[v, u] w fun e w' => e = .returned (.bool true) ∧ Below w.heap.size w w' := by
  intro N
  induction N with
  | zero =>
    intro f hf v u w hl hg
    exact same_of f v u w hl hg (fun k h ks hk => by have := Fo.len_le_size f; omega)
  | succ N ih =>
    intro f hf v u w hl hg
    refine same_of f v u w hl hg (fun k h ks hk e v u w hl hg => ih ks ?_ v u w hl hg)
    have := Fo.size_app (f.take k) (f.drop k)
    rw [Fo.take_app_drop, e] at this
    simp only [Fo.size] at this
    omega
end Go.Proofs.YtcgedpfolloinaaGreat
