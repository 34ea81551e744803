/- What the proof of PrfTreeTexts rests on, part 4 of 4. -/
import Derived.Test.YtefongoinlcgaaaGreatMPrfTreeTexts3
/- the reference's reading of forests. -/
namespace Go.Proofs.YtefongoinlcgaaaGreat
open Go.RowKit

theorem rhead_any (l : List UInt8) (k : Nat) (w : World) (hk : k ≤ l.length) (hl : l.length ≤ 90000) :
    Calls Tryz.prog 153 #[.string ⟨l.toArray⟩, .int .i64 k] w (HdRes w l (headP (l.drop k))) := by
  by_cases hlt : k < l.length
  · obtain ⟨c, hc⟩ : ∃ c, l[k] = c := ⟨_, rfl⟩
    by_cases h34 : c.toNat = 34
    · exact rhead_quo l k c w hlt hl hc h34
    · cases hlet : letterB c with
      | false => exact rhead_fig l k c w hlt hl hc h34 hlet
      | true =>
        obtain ⟨m, hm⟩ : ∃ m, wordLen (l.drop k) = m := ⟨_, rfl⟩
        have hmle : k + m ≤ l.length := by have := wordLen_le (l.drop k); simp at this; omega
        by_cases hend : k + m = l.length
        · exact rhead_end l k m c _ w hlt hl hc hlet hm rfl hend
        · have hlt2 : k + m < l.length := by omega
          obtain ⟨d, hd⟩ : ∃ d, l[k + m] = d := ⟨_, rfl⟩
          by_cases h40 : d.toNat = 40
          · obtain rfl : d = 40 := UInt8.toNat_inj.1 (by rw [h40]; rfl)
            exact rhead_attrs l k m c _ w hlt hl hc hlet hm rfl hlt2 hd
          · exact rhead_word l k m c _ w hlt hl hc hlet hm rfl d hlt2 hd h40
  · exact rhead_nil l k w (by omega)
theorem headP_text {l r : List UInt8} {h : Hd} (hh : headP l = some (h, r)) : (∃ p, l = p ++ r) ∧ r.length + 1 ≤ l.length := by
  unfold headP at hh
  cases hb : beginP l with
  | none => rw [hb] at hh; cases hh
  | some x =>
    obtain ⟨h', r'⟩ := x
    rw [hb] at hh
    simp only at hh
    have hlen := beginP_len hb
    have ht : ∃ p, l = p ++ r' := by
      rcases beginP_text hb with e | ⟨_, e⟩
      · exact ⟨_, e⟩
      · exact ⟨_, e⟩
    by_cases h0 : h'.k = 0
    · rw [if_pos h0] at hh
      simp only [Option.map_eq_some_iff, Prod.mk.injEq, Prod.exists] at hh
      obtain ⟨a, r2, ho, _, rfl⟩ := hh
      have h1 := optA_text ho
      have h2 := optA_len ho
      obtain ⟨p, e⟩ := ht
      exact ⟨⟨p ++ attrsQ a, by rw [e, h1, List.append_assoc]⟩, by omega⟩
    · rw [if_neg h0] at hh
      obtain ⟨rfl, rfl⟩ := Prod.mk.inj (Option.some.inj hh)
      exact ⟨ht, hlen⟩
theorem headP_suffix {l r : List UInt8} {h : Hd} {p : Nat} (hh : headP (l.drop p) = some (h, r)) (hp : p ≤ l.length) : r = l.drop (l.length - r.length) ∧ p + 1 ≤ l.length - r.length ∧ r.length ≤ l.length := by
  obtain ⟨⟨q, e⟩, hlen⟩ := headP_text hh
  obtain ⟨h1, h2, h3⟩ := suffix_drop e hp
  simp at hlen
  exact ⟨h1, by omega, h3⟩

/-- what readForest gives. -/
def FoRes (w : World) (l : List UInt8) (o : Option (Fo × List UInt8)) (e : Ending) (w' : World) : Prop :=
  ∃ v p f, e = .returned (.tuple #[v, .int .i64 p, .bool o.isSome]) ∧ (∀ g r, o = some (g, r) → f = g ∧ p = ((l.length - r.length : Nat) : Int)) ∧ LiesF w.heap.size w' v f ∧ Below w.heap.size w w'
theorem FoRes.no {w : World} {l : List UInt8} {e : Ending} {w' : World} {o : Option (Fo × List UInt8)} (ho : o = none) (he : e = .returned (.tuple #[.slice none 0 0, .int .i64 0, .bool false])) (hb : Below w.heap.size w w') : FoRes w l o e w' := by
  subst ho
  exact ⟨_, 0, .nil, he, fun g r h => (by cases h), .inl ⟨_, _, rfl, rfl⟩, hb⟩
theorem optK_yes {F : List UInt8 → Option (Fo × List UInt8)} (t : List UInt8) : optK F (123 :: t) = (F t).bind fun x => expP 125 x.1 x.2 := rfl
theorem expP_yes {α : Type} {k : UInt8} {x : α} {t : List UInt8} : expP k.toNat x (k :: t) = some (x, t) := if_pos rfl

set_option maxRecDepth 100000 in
set_option maxHeartbeats 16000000 in
theorem rforest_step (F : List UInt8 → Option (Fo × List UInt8)) (o : Option (Fo × List UInt8)) (l : List UInt8) (k : Nat) (w : World) (hk : k ≤ l.length) (hl : l.length ≤ 89000)
    (HFL : ∀ t g u, F t = some (g, u) → u.length ≤ t.length) (HFS : TextF F)
    (HF : ∀ k' W, k < k' → k' ≤ l.length → Calls Tryz.prog 115 #[.string ⟨l.toArray⟩, .int .i64 k'] W (FoRes W l (F (l.drop k'))))
    (ho : o = (treeP F (l.drop k)).bind fun y => (restP (treeP F) y.2.length y.2).map fun z => (.cons y.1.1 y.1.2 z.1, z.2)) :
    Calls Tryz.prog 115 #[.string ⟨l.toArray⟩, .int .i64 k] w (FoRes w l o) := by
  obtain ⟨i0, hi, hz0, hz1, hz2⟩ := info_parts info_tree
  have HO := Lib.hid ho
  have HTL := Lib.hid (fun t x u ht => treeP_len (F := F) HFL (l := t) (x := x) (r := u) ht)
  have HFF := Lib.hid HF
  have HTX := Lib.hid HFS
  clear ho HF HFS HFL
  go_enter Tryz.func115, Tryz.ntmps115
  go_wp2_with fail
  go_loopw [1, 7] (fun i v wr => ∃ (f : Fo) (p g cap : Nat) (a : Option Addr) (cs : List Value) (N : List UInt8 → Nat), i = .int .i64 p ∧ v = .slice a f.len cap ∧ (a = none ∨ a = some ⟨g, 0, none⟩) ∧ k ≤ p ∧ p ≤ l.length ∧ f.len ≤ p ∧
    (∀ y u, treeP F (l.drop p) = some (y, u) → u.length ≤ N u) ∧ o = ((treeP F (l.drop p)).bind fun y => (restP (treeP F) (N y.2) y.2).map fun z => (f.app (.cons y.1.1 y.1.2 z.1), z.2)) ∧ Below w.heap.size w wr ∧
    wr.ownsRow w.heap.size 43 7 (.slice a f.len cap) f.len cs ∧ Stab w.heap.size g wr f cs) (fun i _ _ => l.length - (intOf i).toNat)
  case atStart => exact ⟨.nil, k, 0, 0, none, [], fun r => r.length, rfl, rfl, .inl rfl, Nat.le_refl _, hk, Nat.zero_le _, fun y u _ => Nat.le_refl _, HO.out, Below.refl _ _, World.ownsRow_nil _ _ _ _, fun W _ _ => rfl⟩
  case round =>
    obtain ⟨f, p, g, cap, a, cs, N, rfl, rfl, haa, hkp, hp, hfp, hN, hq, hbw, hown, hst⟩ := hrel
    have HAA := Lib.hid haa
    have HN := Lib.hid hN
    have HQ := Lib.hid hq
    have BW := Lib.hid hbw
    have OWN := Lib.hid hown
    have ST := Lib.hid hst
    have hsr := hbw.size
    have RH := Lib.hid (fun W => rhead_any l p W hp (by omega))
    have hlen := hown.lt
    clear haa hN hq hbw hown hst
    have HG := Lib.hid hlen
    clear hlen
    go_wp2_with fail
    cases hh : headP (l.drop p) with
    | none =>
      have R0 := Lib.hid (fun W => by have := RH.out W; rw [hh] at this; exact this)
      have HZ := Lib.hid (HQ.out.trans (by rw [treeP_head, hh] <;> rfl))
      clear hh RH
      refine (R0.out _).mono ?_
      rintro e w1 ⟨h, aa, ca, p', rfl, _, _, hb1⟩
      unfold hdV
      have B1 := BW.out.trans (hb1.mono hsr)
      have hs1 := hb1.size
      go_wp2_with fail
      go_ret3
      exact FoRes.no HZ.out rfl (by ((repeat' (first | exact Below.refl _ _ | assumption | refine Below.setCell ?_ ?_ _ | refine bdrewN ?_ _ | refine Below.drew ?_ | refine Below.alloc ?_ ?_ _ | refine bbehind ?_ (by assumption) ?_)); all_goals first | (simp; done) | (simp; omega) | omega))
    | some x =>
      obtain ⟨hd, r⟩ := x
      have R0 := Lib.hid (fun W => by have := RH.out W; rw [hh] at this; exact this)
      obtain ⟨hr, hpq, hrl⟩ := headP_suffix hh hp
      obtain ⟨q, hq⟩ : ∃ q, l.length - r.length = q := ⟨_, rfl⟩
      rw [hq] at hr hpq
      have hql : q ≤ l.length := by omega
      subst hr
      refine (R0.out _).mono ?_
      rintro e w1 ⟨h, aa, ca, p', rfl, hpx, hfa, hb1⟩
      obtain ⟨rfl, hp'⟩ := hpx _ _ rfl
      obtain rfl : p' = (q : Int) := by rw [hp', hq]
      have HH := Lib.hid hh
      have HFA := Lib.hid hfa
      have HB1 := Lib.hid hb1
      have hs1 := hb1.size
      clear hh hpx hfa hb1 RH R0 hp' hq hrl
      unfold hdV
      go_upto_region 3 with fail
      have kh := World.alloc_heap_new w1 (.cells #[.int .i64 h.k, .string ⟨h.l.toArray⟩, .slice aa h.ats.length ca, .int .i64 h.n, .int .i64 h.d, .string ⟨h.x.toArray⟩] 27)
      have Bh := Lib.hid (show Below w1.heap.size w1 (w1.alloc (.cells #[.int .i64 h.k, .string ⟨h.l.toArray⟩, .slice aa h.ats.length ca, .int .i64 h.n, .int .i64 h.d, .string ⟨h.x.toArray⟩] 27)) from (Below.refl _ _).alloc (Nat.le_refl _) _)
      have hsh : (w1.alloc (.cells #[.int .i64 h.k, .string ⟨h.l.toArray⟩, .slice aa h.ats.length ca, .int .i64 h.n, .int .i64 h.d, .string ⟨h.x.toArray⟩] 27)).heap.size = w1.heap.size + 1 := by simp
      generalize w1.alloc (.cells #[.int .i64 h.k, .string ⟨h.l.toArray⟩, .slice aa h.ats.length ca, .int .i64 h.n, .int .i64 h.d, .string ⟨h.x.toArray⟩] 27) = W1 at *
      have d0 : W1.cell? ⟨w1.heap.size, 0, none⟩ = some (.int .i64 h.k) := cell_of_block kh rfl
      have d1 : W1.cell? ⟨w1.heap.size, 1, none⟩ = some (.string ⟨h.l.toArray⟩) := cell_of_block kh rfl
      have d2 : W1.cell? ⟨w1.heap.size, 2, none⟩ = some (.slice aa h.ats.length ca) := cell_of_block kh rfl
      have d3 : W1.cell? ⟨w1.heap.size, 3, none⟩ = some (.int .i64 h.n) := cell_of_block kh rfl
      have d4 : W1.cell? ⟨w1.heap.size, 4, none⟩ = some (.int .i64 h.d) := cell_of_block kh rfl
      have d5 : W1.cell? ⟨w1.heap.size, 5, none⟩ = some (.string ⟨h.x.toArray⟩) := cell_of_block kh rfl
      go_upto_region 6 with fail
      have kt := World.alloc_heap_new W1 (.cells #[.int .i64 h.k, .string ⟨h.l.toArray⟩, .slice aa h.ats.length ca, .int .i64 h.n, .int .i64 h.d, .string ⟨h.x.toArray⟩, .slice none 0 0] 43)
      have kh2 := (Below.heap_alloc W1 (.cells #[.int .i64 h.k, .string ⟨h.l.toArray⟩, .slice aa h.ats.length ca, .int .i64 h.n, .int .i64 h.d, .string ⟨h.x.toArray⟩, .slice none 0 0] 43) w1.heap.size (by omega)).trans kh
      have Bt := Lib.hid (Bh.out.alloc Bh.out.size (.cells #[.int .i64 h.k, .string ⟨h.l.toArray⟩, .slice aa h.ats.length ca, .int .i64 h.n, .int .i64 h.d, .string ⟨h.x.toArray⟩, .slice none 0 0] 43))
      have hst : w1.heap.size + 2 ≤ (W1.alloc (.cells #[.int .i64 h.k, .string ⟨h.l.toArray⟩, .slice aa h.ats.length ca, .int .i64 h.n, .int .i64 h.d, .string ⟨h.x.toArray⟩, .slice none 0 0] 43)).heap.size := by simp; omega
      generalize W1.alloc (.cells #[.int .i64 h.k, .string ⟨h.l.toArray⟩, .slice aa h.ats.length ca, .int .i64 h.n, .int .i64 h.d, .string ⟨h.x.toArray⟩, .slice none 0 0] 43) = W at *
      rw [hsh] at kt
      try rw [hsh]
      have KT := Lib.hid kt
      have kd : W.cell? ⟨w1.heap.size, 0, none⟩ = some (.int .i64 h.k) := cell_of_block kh2 rfl
      have HX := Lib.hid (show ∀ y, (if h.k = 0 then (optK F (l.drop q)).map (fun x => ((h, x.1), x.2)) else some ((h, .nil), l.drop q)) = y → treeP F (l.drop p) = y from fun y hy => by rw [treeP_head, HH.out]; exact hy)
      have HK := Lib.hid (fun W => HFF.out (q + 1) W (by omega))
      clear d0 d1 d2 d3 d4 d5 kh kh2 kt Bh HH
      by_cases hk0 : h.k = 0
      rotate_left
      · have bk : (h.k == 0) = false := by simpa using hk0
        have HTR := Lib.hid (HX.out _ (if_neg hk0))
        clear hk0 HX HK
        have B0 : Below wr.heap.size wr W := HB1.out.trans (Bt.out.mono hs1)
        have F0 := attrsF_keeps HFA.out (Keeps.of_below Bt.out : Keeps wr.heap.size w1 W)
        have K0 := KT.out
        have L0 : LiesF wr.heap.size W (.slice none Fo.nil.len 0) .nil := .inl ⟨_, _, rfl, rfl⟩
        go_upto_region 11 with fail
        try clear HX1 hc b123 b123'
        have OW := Lib.hid (owns_below OWN.out B0)
        have SW := Lib.hid (ST.out.next (W1 := W) (g' := g) B0.size (fun k o _ hk _ => World.cell?_of_block (B0.block k hk)) (.inl rfl))
        have FW := Lib.hid F0
        have LW := Lib.hid L0
        have BF := Lib.hid (BW.out.trans (B0.mono hsr))
        have HR := Lib.hid (HQ.out.trans (show _ = (restP (treeP F) (N (l.drop q)) (l.drop q)).map (fun z => (f.app (.cons h Fo.nil z.1), z.2)) by rw [HTR.out] <;> rfl))
        have hNq := HN.out _ _ HTR.out
        obtain ⟨M, hM⟩ : ∃ M, N (l.drop q) = M := ⟨_, rfl⟩
        rw [hM] at hNq HR
        have hsW := B0.size
        have t0 : W.cell? ⟨w1.heap.size + 1, 0, none⟩ = some (.int .i64 h.k) := cell_of_block K0 rfl
        have t1 : W.cell? ⟨w1.heap.size + 1, 1, none⟩ = some (.string ⟨h.l.toArray⟩) := cell_of_block K0 rfl
        have t2 : W.cell? ⟨w1.heap.size + 1, 2, none⟩ = some (.slice aa h.ats.length ca) := cell_of_block K0 rfl
        have t3 : W.cell? ⟨w1.heap.size + 1, 3, none⟩ = some (.int .i64 h.n) := cell_of_block K0 rfl
        have t4 : W.cell? ⟨w1.heap.size + 1, 4, none⟩ = some (.int .i64 h.d) := cell_of_block K0 rfl
        have t5 : W.cell? ⟨w1.heap.size + 1, 5, none⟩ = some (.string ⟨h.x.toArray⟩) := cell_of_block K0 rfl
        have t6 : W.cell? ⟨w1.heap.size + 1, 6, none⟩ = some (.slice none 0 0) := cell_of_block K0 rfl
        clear B0 F0 L0 hM HTR
        go_wp2_with (at_builtin; refine wpList_append_own_at _ rfl _ _ 28 rfl w.heap.size 43 i0 _ 7 104 Tryz.underlying28 hi hz0 hz1 hz2 rfl (by decide) (.slice a f.len cap) f.len cs rfl (OW.out.alloc _) ⟨W.heap.size, 0, none⟩ 1 1 [.int .i64 h.k, .string ⟨h.l.toArray⟩, .slice aa h.ats.length ca, .int .i64 h.n, .int .i64 h.d, .string ⟨h.x.toArray⟩, .slice none 0 0] rfl rfl ?c1y1 ?c2y1 ?c3y1 ?c4y1 ?c5y1 ?stopy1)
        case c1y1 =>
          intro j u hj
          have hnew := World.alloc_heap_new W (.cells #[.int .i64 h.k, .string ⟨h.l.toArray⟩, .slice aa h.ats.length ca, .int .i64 h.n, .int .i64 h.d, .string ⟨h.x.toArray⟩, .slice none 0 0] 43)
          rw [Go.WideShapes.add_plain]
          exact cell_of_block hnew (by simpa using hj)
        case c2y1 => intro u hu; simp at hu; rcases hu with rfl | rfl | rfl | rfl | rfl | rfl | rfl <;> rfl
        case c3y1 => unfold maxLen; omega
        case c4y1 => omega
        case c5y1 => have := BF.out.size; simp; omega
        case stopy1 =>
          intro v' w5 hown' hgrow _ hat
          obtain ⟨g', cap', rfl⟩ : ∃ g cap, v' = .slice (some ⟨g, 0, none⟩) (f.len + 1) cap := by
            rcases hown'.2 with ⟨_, h0⟩ | ⟨g, cap, cur, hv, _⟩
            · omega
            · exact ⟨g, cap, hv⟩
          have hob : ∀ k, (Value.slice a f.len cap).ownBlock = some k → k = g ∧ k < wr.heap.size := by
            intro k e
            refine ⟨?_, (HG.out k e).2⟩
            rcases HAA.out with rfl | rfl
            · cases e
            · simpa [Value.ownBlock] using e.symm
          have hat2 : (g' = g ∧ g' < wr.heap.size) ∨ g' = W.heap.size + 1 := by
            rcases hat with e | e
            · exact .inl (hob g' (e.symm.trans rfl))
            · exact .inr (by simpa [Value.ownBlock] using e)
          have hs5 := hgrow.size
          simp at hs5
          have hcell : ∀ W' : World, w5.heap.size ≤ W'.heap.size → (∀ k o, w.heap.size ≤ k → k < w5.heap.size → k ≠ g' → W'.cell? ⟨k, o, none⟩ = w5.cell? ⟨k, o, none⟩) → ∀ k o, w.heap.size ≤ k → k < W.heap.size → k ≠ g → W'.cell? ⟨k, o, none⟩ = W.cell? ⟨k, o, none⟩ := by
            intro W' hW hc k o h1 h2 h3
            refine (hc k o h1 (by omega) (by omega)).trans (World.cell?_of_block ?_)
            rw [hgrow.block k (by simp; omega) (fun e => h3 (hob k e.symm).1), Below.heap_alloc _ _ k h2]
          have hcell2 : ∀ W' : World, w5.heap.size ≤ W'.heap.size → (∀ k o, w.heap.size ≤ k → k < w5.heap.size → k ≠ g' → W'.cell? ⟨k, o, none⟩ = w5.cell? ⟨k, o, none⟩) → Keeps wr.heap.size W W' := by
            intro W' hW hc
            refine ⟨by omega, fun k o h1 h2 => ?_⟩
            refine (hc k o (by omega) (by omega) (by omega)).trans (World.cell?_of_block ?_)
            rw [hgrow.block k (by simp; omega) (fun e => by have := (hob k e.symm).2; omega), Below.heap_alloc _ _ k h2]
          have S5 := Lib.hid (show Stab w.heap.size g' w5 (f.app (.cons h Fo.nil .nil)) (cs ++ treeCells h aa ca none (Fo.nil).len 0) by
            intro W' hW hc
            have hk := hcell2 W' hW hc
            exact rowL_snoc (attrsF_mono (by omega) (attrsF_keeps FW.out hk)) (liesF_mono (by omega) (liesF_keeps LW.out hk)) f cs (SW.out W' (by omega) (hcell W' hW hc)))
          have O5 := Lib.hid (show w5.ownsRow w.heap.size 43 7 (.slice (some ⟨g', 0, none⟩) (f.len + 1) cap') (f.app (.cons h Fo.nil .nil)).len (cs ++ treeCells h aa ca none (Fo.nil).len 0) by
            rw [app_len]; exact hown')
          have B5 := Lib.hid (((BF.out.alloc BF.out.size _).grown hgrow (by have := BF.out.size; simp; omega) (fun k hk => (HG.out k hk).1) : Below w.heap.size w w5))
          have HAE := Lib.hid (show LiesF w.heap.size w5 (.slice (some ⟨g', 0, none⟩) (f.len + 1) cap') (f.app (.cons h Fo.nil .nil)) by
            have hrow := S5.out w5 (Nat.le_refl _) (fun _ _ _ _ _ => rfl)
            obtain ⟨_, h2⟩ := hown'
            rcases h2 with ⟨h3, _⟩ | ⟨g1, cap1, cur, h3, hb1, hg1, hn1, hc1, _, _⟩
            · cases h3
            · cases h3
              refine .inr ⟨g', 0, cap', by rw [app_len], by rw [app_len]; exact hn1, by rw [app_len]; omega, hb1, (Array.getElem?_eq_some_iff.1 hg1).1, rowL_row _ _ 0 hrow fun j u hj => by
                have := O5.out.cells (g := g') rfl j u hj
                rw [Go.WideShapes.add_plain] at this
                simpa using this⟩)
          clear hown' hgrow hat hcell hcell2 hob hat2
          by_cases hq2 : q < l.length
          rotate_left
          · have HE := Lib.hid (HR.out.trans (show _ = some (f.app (.cons h Fo.nil .nil), l.drop q) by rw [restP_stop (by rw [show l.drop (q) = [] by rw [List.drop_eq_nil_iff]; omega]; simp)]; simp))
            have dq2 : decide ((l.length : Int) ≤ (q : Int)) = true := by simp; omega
            have hlq : l.length - (l.drop (q)).length = q := by simp; omega
            go_wp2_with fail
            go_ret3
            exact ⟨_, _, f.app (.cons h Fo.nil .nil), by rw [HE.out] <;> rfl, fun g r hgr => (by rw [HE.out] at hgr; cases hgr; exact ⟨rfl, by rw [hlq] <;> simp⟩), HAE.out, B5.out⟩
          have dq2 : decide ((l.length : Int) ≤ (q : Int)) = false := by simp; omega
          obtain ⟨dd, hdd⟩ : ∃ dd, l[q] = dd := ⟨_, rfl⟩
          have HX7 := getD_at (d := 0) hq2 hdd
          by_cases h32 : dd.toNat = 32
          · obtain rfl : dd = 32 := UInt8.toNat_inj.1 (by rw [h32]; rfl)
            have HD := drop_at hq2 hdd
            rw [HD] at hNq
            obtain ⟨M', rfl⟩ : ∃ M', M = M' + 1 := ⟨M - 1, by simp at hNq; omega⟩
            have HQ5 := Lib.hid (HR.out.trans (show _ = (treeP F (l.drop (q + 1))).bind fun y => (restP (treeP F) M' y.2).map fun z => ((f.app (.cons h Fo.nil .nil)).app (.cons y.1.1 y.1.2 z.1), z.2) by
              rw [HD, restP_more]
              cases treeP F (l.drop (q + 1)) with
              | none => rfl
              | some y => simp only [Option.bind_some]; cases restP (treeP F) M' y.2 <;> simp [app_cons]))
            have HN5 := Lib.hid (show ∀ y u, treeP F (l.drop (q + 1)) = some (y, u) → u.length ≤ M' from fun y u hy => by
              have h1 := HTL.out _ _ _ hy
              simp at hNq h1
              omega)
            clear HD hNq
            go_wp2_with fail
            go_roundw
            case rel => exact ⟨f.app (.cons h Fo.nil .nil), q + 1, g', cap', some ⟨g', 0, none⟩, cs ++ treeCells h aa ca none (Fo.nil).len 0, fun _ => M', by go_num, by rw [app_len], .inr rfl, by omega, by omega, by rw [app_len]; omega, HN5.out, HQ5.out, B5.out, by rw [← app_len h Fo.nil f] at O5; exact O5.out, S5.out⟩
            case measure => simp [intOf]; omega
          · have b32 : ((dd.toNat : Int) != 32) = true := by simp; omega
            have b32' : (dd.toNat == 32) = false := by simpa using h32
            have HE := Lib.hid (HR.out.trans (show _ = some (f.app (.cons h Fo.nil .nil), l.drop q) by rw [restP_stop (by rw [drop_at hq2 hdd]; simp; intro e; exact h32 (by rw [e]; rfl))]; simp))
            have hlq : l.length - (l.drop (q)).length = q := by simp; omega
            clear h32
            go_wp2_with fail
            go_ret3
            exact ⟨_, _, f.app (.cons h Fo.nil .nil), by rw [HE.out] <;> rfl, fun g r hgr => (by rw [HE.out] at hgr; cases hgr; exact ⟨rfl, by rw [hlq] <;> simp⟩), HAE.out, B5.out⟩
      have bk : (h.k == 0) = true := by simpa using hk0
      by_cases hq1 : q < l.length
      rotate_left
      · have dq : decide (q < l.length) = false := by simpa using hq1
        have HTR := Lib.hid (HX.out _ ((if_pos hk0).trans (show _ = some ((h, .nil), l.drop q) by rw [optK_no (by rw [show l.drop q = [] by rw [List.drop_eq_nil_iff]; omega]; simp)]; rfl)))
        clear hk0 HX HK
        have B0 : Below wr.heap.size wr W := HB1.out.trans (Bt.out.mono hs1)
        have F0 := attrsF_keeps HFA.out (Keeps.of_below Bt.out : Keeps wr.heap.size w1 W)
        have K0 := KT.out
        have L0 : LiesF wr.heap.size W (.slice none Fo.nil.len 0) .nil := .inl ⟨_, _, rfl, rfl⟩
        go_upto_region 11 with fail
        try clear HX1 hc b123 b123'
        have OW := Lib.hid (owns_below OWN.out B0)
        have SW := Lib.hid (ST.out.next (W1 := W) (g' := g) B0.size (fun k o _ hk _ => World.cell?_of_block (B0.block k hk)) (.inl rfl))
        have FW := Lib.hid F0
        have LW := Lib.hid L0
        have BF := Lib.hid (BW.out.trans (B0.mono hsr))
        have HR := Lib.hid (HQ.out.trans (show _ = (restP (treeP F) (N (l.drop q)) (l.drop q)).map (fun z => (f.app (.cons h Fo.nil z.1), z.2)) by rw [HTR.out] <;> rfl))
        have hNq := HN.out _ _ HTR.out
        obtain ⟨M, hM⟩ : ∃ M, N (l.drop q) = M := ⟨_, rfl⟩
        rw [hM] at hNq HR
        have hsW := B0.size
        have t0 : W.cell? ⟨w1.heap.size + 1, 0, none⟩ = some (.int .i64 h.k) := cell_of_block K0 rfl
        have t1 : W.cell? ⟨w1.heap.size + 1, 1, none⟩ = some (.string ⟨h.l.toArray⟩) := cell_of_block K0 rfl
        have t2 : W.cell? ⟨w1.heap.size + 1, 2, none⟩ = some (.slice aa h.ats.length ca) := cell_of_block K0 rfl
        have t3 : W.cell? ⟨w1.heap.size + 1, 3, none⟩ = some (.int .i64 h.n) := cell_of_block K0 rfl
        have t4 : W.cell? ⟨w1.heap.size + 1, 4, none⟩ = some (.int .i64 h.d) := cell_of_block K0 rfl
        have t5 : W.cell? ⟨w1.heap.size + 1, 5, none⟩ = some (.string ⟨h.x.toArray⟩) := cell_of_block K0 rfl
        have t6 : W.cell? ⟨w1.heap.size + 1, 6, none⟩ = some (.slice none 0 0) := cell_of_block K0 rfl
        clear B0 F0 L0 hM HTR
        go_wp2_with (at_builtin; refine wpList_append_own_at _ rfl _ _ 28 rfl w.heap.size 43 i0 _ 7 104 Tryz.underlying28 hi hz0 hz1 hz2 rfl (by decide) (.slice a f.len cap) f.len cs rfl (OW.out.alloc _) ⟨W.heap.size, 0, none⟩ 1 1 [.int .i64 h.k, .string ⟨h.l.toArray⟩, .slice aa h.ats.length ca, .int .i64 h.n, .int .i64 h.d, .string ⟨h.x.toArray⟩, .slice none 0 0] rfl rfl ?c1y2 ?c2y2 ?c3y2 ?c4y2 ?c5y2 ?stopy2)
        case c1y2 =>
          intro j u hj
          have hnew := World.alloc_heap_new W (.cells #[.int .i64 h.k, .string ⟨h.l.toArray⟩, .slice aa h.ats.length ca, .int .i64 h.n, .int .i64 h.d, .string ⟨h.x.toArray⟩, .slice none 0 0] 43)
          rw [Go.WideShapes.add_plain]
          exact cell_of_block hnew (by simpa using hj)
        case c2y2 => intro u hu; simp at hu; rcases hu with rfl | rfl | rfl | rfl | rfl | rfl | rfl <;> rfl
        case c3y2 => unfold maxLen; omega
        case c4y2 => omega
        case c5y2 => have := BF.out.size; simp; omega
        case stopy2 =>
          intro v' w5 hown' hgrow _ hat
          obtain ⟨g', cap', rfl⟩ : ∃ g cap, v' = .slice (some ⟨g, 0, none⟩) (f.len + 1) cap := by
            rcases hown'.2 with ⟨_, h0⟩ | ⟨g, cap, cur, hv, _⟩
            · omega
            · exact ⟨g, cap, hv⟩
          have hob : ∀ k, (Value.slice a f.len cap).ownBlock = some k → k = g ∧ k < wr.heap.size := by
            intro k e
            refine ⟨?_, (HG.out k e).2⟩
            rcases HAA.out with rfl | rfl
            · cases e
            · simpa [Value.ownBlock] using e.symm
          have hat2 : (g' = g ∧ g' < wr.heap.size) ∨ g' = W.heap.size + 1 := by
            rcases hat with e | e
            · exact .inl (hob g' (e.symm.trans rfl))
            · exact .inr (by simpa [Value.ownBlock] using e)
          have hs5 := hgrow.size
          simp at hs5
          have hcell : ∀ W' : World, w5.heap.size ≤ W'.heap.size → (∀ k o, w.heap.size ≤ k → k < w5.heap.size → k ≠ g' → W'.cell? ⟨k, o, none⟩ = w5.cell? ⟨k, o, none⟩) → ∀ k o, w.heap.size ≤ k → k < W.heap.size → k ≠ g → W'.cell? ⟨k, o, none⟩ = W.cell? ⟨k, o, none⟩ := by
            intro W' hW hc k o h1 h2 h3
            refine (hc k o h1 (by omega) (by omega)).trans (World.cell?_of_block ?_)
            rw [hgrow.block k (by simp; omega) (fun e => h3 (hob k e.symm).1), Below.heap_alloc _ _ k h2]
          have hcell2 : ∀ W' : World, w5.heap.size ≤ W'.heap.size → (∀ k o, w.heap.size ≤ k → k < w5.heap.size → k ≠ g' → W'.cell? ⟨k, o, none⟩ = w5.cell? ⟨k, o, none⟩) → Keeps wr.heap.size W W' := by
            intro W' hW hc
            refine ⟨by omega, fun k o h1 h2 => ?_⟩
            refine (hc k o (by omega) (by omega) (by omega)).trans (World.cell?_of_block ?_)
            rw [hgrow.block k (by simp; omega) (fun e => by have := (hob k e.symm).2; omega), Below.heap_alloc _ _ k h2]
          have S5 := Lib.hid (show Stab w.heap.size g' w5 (f.app (.cons h Fo.nil .nil)) (cs ++ treeCells h aa ca none (Fo.nil).len 0) by
            intro W' hW hc
            have hk := hcell2 W' hW hc
            exact rowL_snoc (attrsF_mono (by omega) (attrsF_keeps FW.out hk)) (liesF_mono (by omega) (liesF_keeps LW.out hk)) f cs (SW.out W' (by omega) (hcell W' hW hc)))
          have O5 := Lib.hid (show w5.ownsRow w.heap.size 43 7 (.slice (some ⟨g', 0, none⟩) (f.len + 1) cap') (f.app (.cons h Fo.nil .nil)).len (cs ++ treeCells h aa ca none (Fo.nil).len 0) by
            rw [app_len]; exact hown')
          have B5 := Lib.hid (((BF.out.alloc BF.out.size _).grown hgrow (by have := BF.out.size; simp; omega) (fun k hk => (HG.out k hk).1) : Below w.heap.size w w5))
          have HAE := Lib.hid (show LiesF w.heap.size w5 (.slice (some ⟨g', 0, none⟩) (f.len + 1) cap') (f.app (.cons h Fo.nil .nil)) by
            have hrow := S5.out w5 (Nat.le_refl _) (fun _ _ _ _ _ => rfl)
            obtain ⟨_, h2⟩ := hown'
            rcases h2 with ⟨h3, _⟩ | ⟨g1, cap1, cur, h3, hb1, hg1, hn1, hc1, _, _⟩
            · cases h3
            · cases h3
              refine .inr ⟨g', 0, cap', by rw [app_len], by rw [app_len]; exact hn1, by rw [app_len]; omega, hb1, (Array.getElem?_eq_some_iff.1 hg1).1, rowL_row _ _ 0 hrow fun j u hj => by
                have := O5.out.cells (g := g') rfl j u hj
                rw [Go.WideShapes.add_plain] at this
                simpa using this⟩)
          clear hown' hgrow hat hcell hcell2 hob hat2
          by_cases hq2 : q < l.length
          rotate_left
          · have HE := Lib.hid (HR.out.trans (show _ = some (f.app (.cons h Fo.nil .nil), l.drop q) by rw [restP_stop (by rw [show l.drop (q) = [] by rw [List.drop_eq_nil_iff]; omega]; simp)]; simp))
            have dq2 : decide ((l.length : Int) ≤ (q : Int)) = true := by simp; omega
            have hlq : l.length - (l.drop (q)).length = q := by simp; omega
            go_wp2_with fail
            go_ret3
            exact ⟨_, _, f.app (.cons h Fo.nil .nil), by rw [HE.out] <;> rfl, fun g r hgr => (by rw [HE.out] at hgr; cases hgr; exact ⟨rfl, by rw [hlq] <;> simp⟩), HAE.out, B5.out⟩
          exact absurd hq2 hq1
      have dq : decide (q < l.length) = true := by simpa using hq1
      obtain ⟨c, hc⟩ : ∃ c, l[q] = c := ⟨_, rfl⟩
      by_cases h123 : c.toNat = 123
      rotate_left
      · have b123 : ((c.toNat : Int) == 123) = false := by simp; omega
        have b123' : (c.toNat == 123) = false := by simpa using h123
        have HX1 := getD_at (d := 0) hq1 hc
        have HTR := Lib.hid (HX.out _ ((if_pos hk0).trans (show _ = some ((h, .nil), l.drop q) by rw [optK_no (by rw [drop_at hq1 hc]; simp; intro e; exact h123 (by rw [e]; rfl))]; rfl)))
        clear hk0 HX HK h123
        have B0 : Below wr.heap.size wr W := HB1.out.trans (Bt.out.mono hs1)
        have F0 := attrsF_keeps HFA.out (Keeps.of_below Bt.out : Keeps wr.heap.size w1 W)
        have K0 := KT.out
        have L0 : LiesF wr.heap.size W (.slice none Fo.nil.len 0) .nil := .inl ⟨_, _, rfl, rfl⟩
        go_upto_region 11 with fail
        try clear HX1 hc b123 b123'
        have OW := Lib.hid (owns_below OWN.out B0)
        have SW := Lib.hid (ST.out.next (W1 := W) (g' := g) B0.size (fun k o _ hk _ => World.cell?_of_block (B0.block k hk)) (.inl rfl))
        have FW := Lib.hid F0
        have LW := Lib.hid L0
        have BF := Lib.hid (BW.out.trans (B0.mono hsr))
        have HR := Lib.hid (HQ.out.trans (show _ = (restP (treeP F) (N (l.drop q)) (l.drop q)).map (fun z => (f.app (.cons h Fo.nil z.1), z.2)) by rw [HTR.out] <;> rfl))
        have hNq := HN.out _ _ HTR.out
        obtain ⟨M, hM⟩ : ∃ M, N (l.drop q) = M := ⟨_, rfl⟩
        rw [hM] at hNq HR
        have hsW := B0.size
        have t0 : W.cell? ⟨w1.heap.size + 1, 0, none⟩ = some (.int .i64 h.k) := cell_of_block K0 rfl
        have t1 : W.cell? ⟨w1.heap.size + 1, 1, none⟩ = some (.string ⟨h.l.toArray⟩) := cell_of_block K0 rfl
        have t2 : W.cell? ⟨w1.heap.size + 1, 2, none⟩ = some (.slice aa h.ats.length ca) := cell_of_block K0 rfl
        have t3 : W.cell? ⟨w1.heap.size + 1, 3, none⟩ = some (.int .i64 h.n) := cell_of_block K0 rfl
        have t4 : W.cell? ⟨w1.heap.size + 1, 4, none⟩ = some (.int .i64 h.d) := cell_of_block K0 rfl
        have t5 : W.cell? ⟨w1.heap.size + 1, 5, none⟩ = some (.string ⟨h.x.toArray⟩) := cell_of_block K0 rfl
        have t6 : W.cell? ⟨w1.heap.size + 1, 6, none⟩ = some (.slice none 0 0) := cell_of_block K0 rfl
        clear B0 F0 L0 hM HTR
        go_wp2_with (at_builtin; refine wpList_append_own_at _ rfl _ _ 28 rfl w.heap.size 43 i0 _ 7 104 Tryz.underlying28 hi hz0 hz1 hz2 rfl (by decide) (.slice a f.len cap) f.len cs rfl (OW.out.alloc _) ⟨W.heap.size, 0, none⟩ 1 1 [.int .i64 h.k, .string ⟨h.l.toArray⟩, .slice aa h.ats.length ca, .int .i64 h.n, .int .i64 h.d, .string ⟨h.x.toArray⟩, .slice none 0 0] rfl rfl ?c1y3 ?c2y3 ?c3y3 ?c4y3 ?c5y3 ?stopy3)
        case c1y3 =>
          intro j u hj
          have hnew := World.alloc_heap_new W (.cells #[.int .i64 h.k, .string ⟨h.l.toArray⟩, .slice aa h.ats.length ca, .int .i64 h.n, .int .i64 h.d, .string ⟨h.x.toArray⟩, .slice none 0 0] 43)
          rw [Go.WideShapes.add_plain]
          exact cell_of_block hnew (by simpa using hj)
        case c2y3 => intro u hu; simp at hu; rcases hu with rfl | rfl | rfl | rfl | rfl | rfl | rfl <;> rfl
        case c3y3 => unfold maxLen; omega
        case c4y3 => omega
        case c5y3 => have := BF.out.size; simp; omega
        case stopy3 =>
          intro v' w5 hown' hgrow _ hat
          obtain ⟨g', cap', rfl⟩ : ∃ g cap, v' = .slice (some ⟨g, 0, none⟩) (f.len + 1) cap := by
            rcases hown'.2 with ⟨_, h0⟩ | ⟨g, cap, cur, hv, _⟩
            · omega
            · exact ⟨g, cap, hv⟩
          have hob : ∀ k, (Value.slice a f.len cap).ownBlock = some k → k = g ∧ k < wr.heap.size := by
            intro k e
            refine ⟨?_, (HG.out k e).2⟩
            rcases HAA.out with rfl | rfl
            · cases e
            · simpa [Value.ownBlock] using e.symm
          have hat2 : (g' = g ∧ g' < wr.heap.size) ∨ g' = W.heap.size + 1 := by
            rcases hat with e | e
            · exact .inl (hob g' (e.symm.trans rfl))
            · exact .inr (by simpa [Value.ownBlock] using e)
          have hs5 := hgrow.size
          simp at hs5
          have hcell : ∀ W' : World, w5.heap.size ≤ W'.heap.size → (∀ k o, w.heap.size ≤ k → k < w5.heap.size → k ≠ g' → W'.cell? ⟨k, o, none⟩ = w5.cell? ⟨k, o, none⟩) → ∀ k o, w.heap.size ≤ k → k < W.heap.size → k ≠ g → W'.cell? ⟨k, o, none⟩ = W.cell? ⟨k, o, none⟩ := by
            intro W' hW hc k o h1 h2 h3
            refine (hc k o h1 (by omega) (by omega)).trans (World.cell?_of_block ?_)
            rw [hgrow.block k (by simp; omega) (fun e => h3 (hob k e.symm).1), Below.heap_alloc _ _ k h2]
          have hcell2 : ∀ W' : World, w5.heap.size ≤ W'.heap.size → (∀ k o, w.heap.size ≤ k → k < w5.heap.size → k ≠ g' → W'.cell? ⟨k, o, none⟩ = w5.cell? ⟨k, o, none⟩) → Keeps wr.heap.size W W' := by
            intro W' hW hc
            refine ⟨by omega, fun k o h1 h2 => ?_⟩
            refine (hc k o (by omega) (by omega) (by omega)).trans (World.cell?_of_block ?_)
            rw [hgrow.block k (by simp; omega) (fun e => by have := (hob k e.symm).2; omega), Below.heap_alloc _ _ k h2]
          have S5 := Lib.hid (show Stab w.heap.size g' w5 (f.app (.cons h Fo.nil .nil)) (cs ++ treeCells h aa ca none (Fo.nil).len 0) by
            intro W' hW hc
            have hk := hcell2 W' hW hc
            exact rowL_snoc (attrsF_mono (by omega) (attrsF_keeps FW.out hk)) (liesF_mono (by omega) (liesF_keeps LW.out hk)) f cs (SW.out W' (by omega) (hcell W' hW hc)))
          have O5 := Lib.hid (show w5.ownsRow w.heap.size 43 7 (.slice (some ⟨g', 0, none⟩) (f.len + 1) cap') (f.app (.cons h Fo.nil .nil)).len (cs ++ treeCells h aa ca none (Fo.nil).len 0) by
            rw [app_len]; exact hown')
          have B5 := Lib.hid (((BF.out.alloc BF.out.size _).grown hgrow (by have := BF.out.size; simp; omega) (fun k hk => (HG.out k hk).1) : Below w.heap.size w w5))
          have HAE := Lib.hid (show LiesF w.heap.size w5 (.slice (some ⟨g', 0, none⟩) (f.len + 1) cap') (f.app (.cons h Fo.nil .nil)) by
            have hrow := S5.out w5 (Nat.le_refl _) (fun _ _ _ _ _ => rfl)
            obtain ⟨_, h2⟩ := hown'
            rcases h2 with ⟨h3, _⟩ | ⟨g1, cap1, cur, h3, hb1, hg1, hn1, hc1, _, _⟩
            · cases h3
            · cases h3
              refine .inr ⟨g', 0, cap', by rw [app_len], by rw [app_len]; exact hn1, by rw [app_len]; omega, hb1, (Array.getElem?_eq_some_iff.1 hg1).1, rowL_row _ _ 0 hrow fun j u hj => by
                have := O5.out.cells (g := g') rfl j u hj
                rw [Go.WideShapes.add_plain] at this
                simpa using this⟩)
          clear hown' hgrow hat hcell hcell2 hob hat2
          by_cases hq2 : q < l.length
          rotate_left
          · exact absurd hq1 hq2
          have dq2 : decide ((l.length : Int) ≤ (q : Int)) = false := by simp; omega
          obtain ⟨dd, hdd⟩ : ∃ dd, l[q] = dd := ⟨_, rfl⟩
          have HX7 := getD_at (d := 0) hq2 hdd
          by_cases h32 : dd.toNat = 32
          · obtain rfl : dd = 32 := UInt8.toNat_inj.1 (by rw [h32]; rfl)
            have HD := drop_at hq2 hdd
            rw [HD] at hNq
            obtain ⟨M', rfl⟩ : ∃ M', M = M' + 1 := ⟨M - 1, by simp at hNq; omega⟩
            have HQ5 := Lib.hid (HR.out.trans (show _ = (treeP F (l.drop (q + 1))).bind fun y => (restP (treeP F) M' y.2).map fun z => ((f.app (.cons h Fo.nil .nil)).app (.cons y.1.1 y.1.2 z.1), z.2) by
              rw [HD, restP_more]
              cases treeP F (l.drop (q + 1)) with
              | none => rfl
              | some y => simp only [Option.bind_some]; cases restP (treeP F) M' y.2 <;> simp [app_cons]))
            have HN5 := Lib.hid (show ∀ y u, treeP F (l.drop (q + 1)) = some (y, u) → u.length ≤ M' from fun y u hy => by
              have h1 := HTL.out _ _ _ hy
              simp at hNq h1
              omega)
            clear HD hNq
            go_wp2_with fail
            go_roundw
            case rel => exact ⟨f.app (.cons h Fo.nil .nil), q + 1, g', cap', some ⟨g', 0, none⟩, cs ++ treeCells h aa ca none (Fo.nil).len 0, fun _ => M', by go_num, by rw [app_len], .inr rfl, by omega, by omega, by rw [app_len]; omega, HN5.out, HQ5.out, B5.out, by rw [← app_len h Fo.nil f] at O5; exact O5.out, S5.out⟩
            case measure => simp [intOf]; omega
          · have b32 : ((dd.toNat : Int) != 32) = true := by simp; omega
            have b32' : (dd.toNat == 32) = false := by simpa using h32
            have HE := Lib.hid (HR.out.trans (show _ = some (f.app (.cons h Fo.nil .nil), l.drop q) by rw [restP_stop (by rw [drop_at hq2 hdd]; simp; intro e; exact h32 (by rw [e]; rfl))]; simp))
            have hlq : l.length - (l.drop (q)).length = q := by simp; omega
            clear h32
            go_wp2_with fail
            go_ret3
            exact ⟨_, _, f.app (.cons h Fo.nil .nil), by rw [HE.out] <;> rfl, fun g r hgr => (by rw [HE.out] at hgr; cases hgr; exact ⟨rfl, by rw [hlq] <;> simp⟩), HAE.out, B5.out⟩
      obtain rfl : c = 123 := UInt8.toNat_inj.1 (by rw [h123]; rfl)
      have HX1 := getD_at (d := 0) hq1 hc
      have HY := Lib.hid (show ∀ y, ((F (l.drop (q + 1))).bind fun x => expP 125 x.1 x.2).map (fun x => ((h, x.1), x.2)) = y → treeP F (l.drop p) = y from fun y hy => HX.out y ((if_pos hk0).trans (by rw [drop_at hq1 hc, optK_yes]; exact hy)))
      have HK1 := Lib.hid (fun W => HK.out W (by omega))
      clear HX HK h123 hk0
      go_wp2_with fail
      cases hf : F (l.drop (q + 1)) with
      | none =>
        have HZ := Lib.hid (HQ.out.trans (by rw [HY.out none (by rw [hf] <;> rfl)] <;> rfl))
        refine (HK1.out _).mono ?_
        rw [hf]
        rintro e w3 ⟨v, p', f', rfl, _, hlf, hb3⟩
        obtain ⟨av, cv, rfl⟩ := liesF_form hlf
        have B3 := (BW.out.trans ((HB1.out.trans (Bt.out.mono hs1)).mono hsr)).trans (hb3.mono (by omega))
        clear hlf hf
        go_wp2_with fail
        go_ret3
        exact FoRes.no HZ.out rfl B3
      | some x =>
        obtain ⟨gk, r2⟩ := x
        obtain ⟨hr2, hpm, hrl2⟩ := suffix_drop (HTX.out _ _ _ hf).1 (by omega)
        obtain ⟨m, hm⟩ : ∃ m, l.length - r2.length = m := ⟨_, rfl⟩
        rw [hm] at hr2 hpm
        have hml : m ≤ l.length := by omega
        have hqm : q + 1 ≤ m := by omega
        subst hr2
        refine (HK1.out _).mono ?_
        rw [hf]
        rintro e w3 ⟨v, p', f', rfl, hpx, hlf, hb3⟩
        obtain ⟨rfl, hp'⟩ := hpx _ _ rfl
        obtain rfl : p' = (m : Int) := by rw [hp', hm]
        obtain ⟨ak, ck, rfl⟩ := liesF_form hlf
        have HLF := Lib.hid hlf
        have hs3 := hb3.size
        have k3 := (hb3.block (w1.heap.size + 1) (by omega)).trans KT.out
        have B13 := Lib.hid (Bt.out.trans (hb3.mono (by omega)))
        have B3 := Lib.hid ((BW.out.trans ((HB1.out.trans (Bt.out.mono hs1)).mono hsr)).trans (hb3.mono (by omega)))
        clear hpx hlf hb3 hp' hm hrl2 hpm HK1
        by_cases hm1 : m < l.length
        rotate_left
        · have HZ := Lib.hid (HQ.out.trans (by rw [HY.out none (by rw [hf, Option.bind_some, show l.drop m = [] by rw [List.drop_eq_nil_iff]; omega] <;> rfl)] <;> rfl))
          have dm : decide ((l.length : Int) ≤ (m : Int)) = true := by simp; omega
          clear hf
          go_wp2_with fail
          go_ret3
          exact FoRes.no HZ.out rfl B3.out
        have dm : decide ((l.length : Int) ≤ (m : Int)) = false := by simp; omega
        obtain ⟨c, hcm⟩ : ∃ c, l[m] = c := ⟨_, rfl⟩
        by_cases h125 : c.toNat = 125
        rotate_left
        · have HZ := Lib.hid (HQ.out.trans (by rw [HY.out none (by rw [hf, Option.bind_some, drop_at hm1 hcm]; simp [expP, h125])] <;> rfl))
          have b125 : ((c.toNat : Int) != 125) = true := by simp; omega
          have b125' : (c.toNat == 125) = false := by simpa using h125
          have HX2 := getD_at (d := 0) hm1 hcm
          clear hf h125
          go_wp2_with fail
          go_ret3
          exact FoRes.no HZ.out rfl B3.out
        obtain rfl : c = 125 := UInt8.toNat_inj.1 (by rw [h125]; rfl)
        have HX2 := getD_at (d := 0) hm1 hcm
        have HTR := Lib.hid (HY.out (some ((h, f'), l.drop (m + 1))) (by rw [hf, Option.bind_some, drop_at hm1 hcm]; rfl))
        clear hf h125 HY
        have t6 : w3.cell? ⟨w1.heap.size + 1, 6, none⟩ = some (.slice none 0 0) := cell_of_block k3 rfl
        have tf6 := frozen_of_block (o := 6) k3
        have K0 : (w3.setCell ⟨w1.heap.size + 1, 6, none⟩ (.slice ak f'.len ck)).heap[w1.heap.size + 1]? = _ := set_block k3
        have b1 : Below w1.heap.size w1 (w3.setCell ⟨w1.heap.size + 1, 6, none⟩ (.slice ak f'.len ck)) := B13.out.setCell (p := ⟨w1.heap.size + 1, 6, none⟩) (by show w1.heap.size ≤ w1.heap.size + 1; omega) _
        have L0 := liesF_mono (by omega : wr.heap.size ≤ W.heap.size) (liesF_keeps HLF.out (Keeps.setCell w3 (B := W.heap.size) (b := w1.heap.size + 1) (by omega) 6 (.slice ak f'.len ck)))
        go_upto_region 11 with fail
        generalize w3.setCell ⟨w1.heap.size + 1, 6, none⟩ (.slice ak f'.len ck) = W5 at *
        have B0 : Below wr.heap.size wr W5 := HB1.out.trans (b1.mono hs1)
        have F0 := attrsF_keeps HFA.out (Keeps.of_below b1 : Keeps wr.heap.size w1 W5)
        clear t6 tf6 k3 b1 kd
        have OW := Lib.hid (owns_below OWN.out B0)
        have SW := Lib.hid (ST.out.next (W1 := W5) (g' := g) B0.size (fun k o _ hk _ => World.cell?_of_block (B0.block k hk)) (.inl rfl))
        have FW := Lib.hid F0
        have LW := Lib.hid L0
        have BF := Lib.hid (BW.out.trans (B0.mono hsr))
        have HR := Lib.hid (HQ.out.trans (show _ = (restP (treeP F) (N (l.drop (m + 1))) (l.drop (m + 1))).map (fun z => (f.app (.cons h f' z.1), z.2)) by rw [HTR.out] <;> rfl))
        have hNq := HN.out _ _ HTR.out
        obtain ⟨M, hM⟩ : ∃ M, N (l.drop (m + 1)) = M := ⟨_, rfl⟩
        rw [hM] at hNq HR
        have hsW := B0.size
        have t0 : W5.cell? ⟨w1.heap.size + 1, 0, none⟩ = some (.int .i64 h.k) := cell_of_block K0 rfl
        have t1 : W5.cell? ⟨w1.heap.size + 1, 1, none⟩ = some (.string ⟨h.l.toArray⟩) := cell_of_block K0 rfl
        have t2 : W5.cell? ⟨w1.heap.size + 1, 2, none⟩ = some (.slice aa h.ats.length ca) := cell_of_block K0 rfl
        have t3 : W5.cell? ⟨w1.heap.size + 1, 3, none⟩ = some (.int .i64 h.n) := cell_of_block K0 rfl
        have t4 : W5.cell? ⟨w1.heap.size + 1, 4, none⟩ = some (.int .i64 h.d) := cell_of_block K0 rfl
        have t5 : W5.cell? ⟨w1.heap.size + 1, 5, none⟩ = some (.string ⟨h.x.toArray⟩) := cell_of_block K0 rfl
        have t6 : W5.cell? ⟨w1.heap.size + 1, 6, none⟩ = some (.slice ak f'.len ck) := cell_of_block K0 rfl
        clear B0 F0 L0 hM HTR
        go_wp2_with (at_builtin; refine wpList_append_own_at _ rfl _ _ 28 rfl w.heap.size 43 i0 _ 7 104 Tryz.underlying28 hi hz0 hz1 hz2 rfl (by decide) (.slice a f.len cap) f.len cs rfl (OW.out.alloc _) ⟨W5.heap.size, 0, none⟩ 1 1 [.int .i64 h.k, .string ⟨h.l.toArray⟩, .slice aa h.ats.length ca, .int .i64 h.n, .int .i64 h.d, .string ⟨h.x.toArray⟩, .slice ak f'.len ck] rfl rfl ?c1y4 ?c2y4 ?c3y4 ?c4y4 ?c5y4 ?stopy4)
        case c1y4 =>
          intro j u hj
          have hnew := World.alloc_heap_new W5 (.cells #[.int .i64 h.k, .string ⟨h.l.toArray⟩, .slice aa h.ats.length ca, .int .i64 h.n, .int .i64 h.d, .string ⟨h.x.toArray⟩, .slice ak f'.len ck] 43)
          rw [Go.WideShapes.add_plain]
          exact cell_of_block hnew (by simpa using hj)
        case c2y4 => intro u hu; simp at hu; rcases hu with rfl | rfl | rfl | rfl | rfl | rfl | rfl <;> rfl
        case c3y4 => unfold maxLen; omega
        case c4y4 => omega
        case c5y4 => have := BF.out.size; simp; omega
        case stopy4 =>
          intro v' w5 hown' hgrow _ hat
          obtain ⟨g', cap', rfl⟩ : ∃ g cap, v' = .slice (some ⟨g, 0, none⟩) (f.len + 1) cap := by
            rcases hown'.2 with ⟨_, h0⟩ | ⟨g, cap, cur, hv, _⟩
            · omega
            · exact ⟨g, cap, hv⟩
          have hob : ∀ k, (Value.slice a f.len cap).ownBlock = some k → k = g ∧ k < wr.heap.size := by
            intro k e
            refine ⟨?_, (HG.out k e).2⟩
            rcases HAA.out with rfl | rfl
            · cases e
            · simpa [Value.ownBlock] using e.symm
          have hat2 : (g' = g ∧ g' < wr.heap.size) ∨ g' = W5.heap.size + 1 := by
            rcases hat with e | e
            · exact .inl (hob g' (e.symm.trans rfl))
            · exact .inr (by simpa [Value.ownBlock] using e)
          have hs5 := hgrow.size
          simp at hs5
          have hcell : ∀ W' : World, w5.heap.size ≤ W'.heap.size → (∀ k o, w.heap.size ≤ k → k < w5.heap.size → k ≠ g' → W'.cell? ⟨k, o, none⟩ = w5.cell? ⟨k, o, none⟩) → ∀ k o, w.heap.size ≤ k → k < W5.heap.size → k ≠ g → W'.cell? ⟨k, o, none⟩ = W5.cell? ⟨k, o, none⟩ := by
            intro W' hW hc k o h1 h2 h3
            refine (hc k o h1 (by omega) (by omega)).trans (World.cell?_of_block ?_)
            rw [hgrow.block k (by simp; omega) (fun e => h3 (hob k e.symm).1), Below.heap_alloc _ _ k h2]
          have hcell2 : ∀ W' : World, w5.heap.size ≤ W'.heap.size → (∀ k o, w.heap.size ≤ k → k < w5.heap.size → k ≠ g' → W'.cell? ⟨k, o, none⟩ = w5.cell? ⟨k, o, none⟩) → Keeps wr.heap.size W5 W' := by
            intro W' hW hc
            refine ⟨by omega, fun k o h1 h2 => ?_⟩
            refine (hc k o (by omega) (by omega) (by omega)).trans (World.cell?_of_block ?_)
            rw [hgrow.block k (by simp; omega) (fun e => by have := (hob k e.symm).2; omega), Below.heap_alloc _ _ k h2]
          have S5 := Lib.hid (show Stab w.heap.size g' w5 (f.app (.cons h f' .nil)) (cs ++ treeCells h aa ca ak (f').len ck) by
            intro W' hW hc
            have hk := hcell2 W' hW hc
            exact rowL_snoc (attrsF_mono (by omega) (attrsF_keeps FW.out hk)) (liesF_mono (by omega) (liesF_keeps LW.out hk)) f cs (SW.out W' (by omega) (hcell W' hW hc)))
          have O5 := Lib.hid (show w5.ownsRow w.heap.size 43 7 (.slice (some ⟨g', 0, none⟩) (f.len + 1) cap') (f.app (.cons h f' .nil)).len (cs ++ treeCells h aa ca ak (f').len ck) by
            rw [app_len]; exact hown')
          have B5 := Lib.hid (((BF.out.alloc BF.out.size _).grown hgrow (by have := BF.out.size; simp; omega) (fun k hk => (HG.out k hk).1) : Below w.heap.size w w5))
          have HAE := Lib.hid (show LiesF w.heap.size w5 (.slice (some ⟨g', 0, none⟩) (f.len + 1) cap') (f.app (.cons h f' .nil)) by
            have hrow := S5.out w5 (Nat.le_refl _) (fun _ _ _ _ _ => rfl)
            obtain ⟨_, h2⟩ := hown'
            rcases h2 with ⟨h3, _⟩ | ⟨g1, cap1, cur, h3, hb1, hg1, hn1, hc1, _, _⟩
            · cases h3
            · cases h3
              refine .inr ⟨g', 0, cap', by rw [app_len], by rw [app_len]; exact hn1, by rw [app_len]; omega, hb1, (Array.getElem?_eq_some_iff.1 hg1).1, rowL_row _ _ 0 hrow fun j u hj => by
                have := O5.out.cells (g := g') rfl j u hj
                rw [Go.WideShapes.add_plain] at this
                simpa using this⟩)
          clear hown' hgrow hat hcell hcell2 hob hat2
          by_cases hq2 : (m + 1) < l.length
          rotate_left
          · have HE := Lib.hid (HR.out.trans (show _ = some (f.app (.cons h f' .nil), l.drop (m + 1)) by rw [restP_stop (by rw [show l.drop ((m + 1)) = [] by rw [List.drop_eq_nil_iff]; omega]; simp)]; simp))
            have dq2 : decide ((l.length : Int) ≤ ((m + 1) : Int)) = true := by simp; omega
            have hlq : l.length - (l.drop ((m + 1))).length = (m + 1) := by simp; omega
            go_wp2_with fail
            go_ret3
            exact ⟨_, _, f.app (.cons h f' .nil), by rw [HE.out] <;> rfl, fun g r hgr => (by rw [HE.out] at hgr; cases hgr; exact ⟨rfl, by rw [hlq] <;> simp⟩), HAE.out, B5.out⟩
          have dq2 : decide ((l.length : Int) ≤ ((m + 1) : Int)) = false := by simp; omega
          obtain ⟨dd, hdd⟩ : ∃ dd, l[(m + 1)] = dd := ⟨_, rfl⟩
          have HX7 := getD_at (d := 0) hq2 hdd
          by_cases h32 : dd.toNat = 32
          · obtain rfl : dd = 32 := UInt8.toNat_inj.1 (by rw [h32]; rfl)
            have HD := drop_at hq2 hdd
            rw [HD] at hNq
            obtain ⟨M', rfl⟩ : ∃ M', M = M' + 1 := ⟨M - 1, by simp at hNq; omega⟩
            have HQ5 := Lib.hid (HR.out.trans (show _ = (treeP F (l.drop ((m + 1) + 1))).bind fun y => (restP (treeP F) M' y.2).map fun z => ((f.app (.cons h f' .nil)).app (.cons y.1.1 y.1.2 z.1), z.2) by
              rw [HD, restP_more]
              cases treeP F (l.drop ((m + 1) + 1)) with
              | none => rfl
              | some y => simp only [Option.bind_some]; cases restP (treeP F) M' y.2 <;> simp [app_cons]))
            have HN5 := Lib.hid (show ∀ y u, treeP F (l.drop ((m + 1) + 1)) = some (y, u) → u.length ≤ M' from fun y u hy => by
              have h1 := HTL.out _ _ _ hy
              simp at hNq h1
              omega)
            clear HD hNq
            go_wp2_with fail
            go_roundw
            case rel => exact ⟨f.app (.cons h f' .nil), (m + 1) + 1, g', cap', some ⟨g', 0, none⟩, cs ++ treeCells h aa ca ak (f').len ck, fun _ => M', by go_num, by rw [app_len], .inr rfl, by omega, by omega, by rw [app_len]; omega, HN5.out, HQ5.out, B5.out, by rw [← app_len h f' f] at O5; exact O5.out, S5.out⟩
            case measure => simp [intOf]; omega
          · have b32 : ((dd.toNat : Int) != 32) = true := by simp; omega
            have b32' : (dd.toNat == 32) = false := by simpa using h32
            have HE := Lib.hid (HR.out.trans (show _ = some (f.app (.cons h f' .nil), l.drop (m + 1)) by rw [restP_stop (by rw [drop_at hq2 hdd]; simp; intro e; exact h32 (by rw [e]; rfl))]; simp))
            have hlq : l.length - (l.drop ((m + 1))).length = (m + 1) := by simp; omega
            clear h32
            go_wp2_with fail
            go_ret3
            exact ⟨_, _, f.app (.cons h f' .nil), by rw [HE.out] <;> rfl, fun g r hgr => (by rw [HE.out] at hgr; cases hgr; exact ⟨rfl, by rw [hlq] <;> simp⟩), HAE.out, B5.out⟩
end Go.Proofs.YtefongoinlcgaaaGreat

/- the reference's Parse, whatever the text; the walk of the law TreeTexts. -/
namespace Go.Proofs.YtefongoinlcgaaaGreat
open Go.RowKit

theorem rforest_any (l : List UInt8) (hl : l.length ≤ 89000) : ∀ (n k : Nat) (w : World), k ≤ l.length → (l.drop k).length ≤ n →
    Calls Tryz.prog 115 #[.string ⟨l.toArray⟩, .int .i64 k] w (FoRes w l (forestP (n + 1) (l.drop k)))
  | 0, k, w, hk, hn => by
    simp at hn
    exact rforest_step (forestP 0) _ l k w hk hl (forestP_len 0) (forestP_text 0) (fun k' W h1 h2 => by omega) (forestP_eq 0 _)
  | n + 1, k, w, hk, hn => by
    simp at hn
    exact rforest_step (forestP (n + 1)) _ l k w hk hl (forestP_len (n + 1)) (forestP_text (n + 1)) (fun k' W h1 h2 => rforest_any l hl n k' W h2 (by simp; omega)) (forestP_eq (n + 1) _)

set_option maxRecDepth 100000 in
set_option maxHeartbeats 2000000 in
theorem bounded_any (f : Fo) (v : Value) (w : World) (hl : Lies w v f) (hs : Small f) :
    Calls Tryz.prog 107 #[v] w fun e w' => e = .returned (.tuple #[if foErr f = 0 then v else .slice none 0 0, .int .i64 (foErr f)]) ∧ Below w.heap.size w w' := by
  have C := Lib.hid (qcheck_any f v w hl hs)
  obtain ⟨a, cap, rfl⟩ := lies_form hl
  clear hl hs
  by_cases h0 : foErr f = 0
  · rw [if_pos h0]
    rw [h0] at C ⊢
    clear h0
    go_enter Tryz.func107, Tryz.ntmps107
    go_wp2_with fail
    refine C.out.mono ?_
    rintro e w1 ⟨rfl, hb1⟩
    go_wp2_with fail
    go_ret2
    exact ⟨rfl, hb1⟩
  · rw [if_neg h0]
    generalize foErr f = ef at *
    have b0 : (ef != 0) = true := by simpa using h0
    clear h0
    go_enter Tryz.func107, Tryz.ntmps107
    go_wp2_with fail
    refine C.out.mono ?_
    rintro e w1 ⟨rfl, hb1⟩
    go_wp2_with fail
    go_ret2
    exact ⟨rfl, hb1⟩

set_option maxRecDepth 100000 in
set_option maxHeartbeats 4000000 in
theorem qparse_any (l : List UInt8) (w : World) (hl : l.length ≤ 89000) :
    Calls Tryz.prog 59 #[.string ⟨l.toArray⟩] w fun e w' => ∃ v, e = .returned (.tuple #[v, .int .i64 (parsed l).2]) ∧ LiesF w.heap.size w' v (parsed l).1 ∧ Below w.heap.size w w' := by
  obtain ⟨p, hp⟩ : ∃ p, parsed l = p := ⟨_, rfl⟩
  rw [hp]
  have HP := Lib.hid hp.symm
  by_cases h2 : 20000 < l.length
  · have d : decide ((20000 : Int) < (l.length : Int)) = true := by simp; omega
    have HX := HP.out.trans (if_pos h2)
    subst HX
    clear h2 hp HP
    go_enter Tryz.func59, Tryz.ntmps59
    go_wp2_with fail
    go_ret2
    exact ⟨_, rfl, .inl ⟨_, _, rfl, rfl⟩, Below.refl _ _⟩
  have d : decide ((20000 : Int) < (l.length : Int)) = false := by simp; omega
  have HX := Lib.hid (HP.out.trans (if_neg h2))
  by_cases hn : l = []
  · subst hn
    have HY := HX.out.trans (show _ = (Fo.nil, 0) from rfl)
    subst HY
    clear h2 hp HP HX
    go_enter Tryz.func59, Tryz.ntmps59
    go_wp2_with fail
    go_ret2
    exact ⟨_, rfl, .inl ⟨_, _, rfl, rfl⟩, Below.refl _ _⟩
  have bn : ((⟨l.toArray⟩ : ByteArray) == ⟨#[]⟩) = false := by rw [str_eq]; simpa using hn
  have RF := Lib.hid (show Calls Tryz.prog 115 #[.string ⟨l.toArray⟩, .int .i64 0] w (FoRes w l (forestP (l.length + 1) (l.drop 0))) from rforest_any l hl l.length 0 w (Nat.zero_le _) (by simp))
  have bn2 : (l == []) = false := by simpa using hn
  have SM := Lib.hid (fun f => readP_small (f := f) (show l.length ≤ 100000 by omega))
  have hrd : readP l = match forestP (l.length + 1) (l.drop 0) with
    | some (f, []) => some f
    | _ => none := by
    cases l with
    | nil => exact absurd rfl hn
    | cons c t => rfl
  have HRD := Lib.hid hrd
  clear hrd h2 hp HP
  go_enter Tryz.func59, Tryz.ntmps59
  go_wp2_with fail
  refine RF.out.mono ?_
  rintro e w1 ⟨v, q, g, rfl, hg, hv, hb1⟩
  obtain ⟨av, cv, rfl⟩ := liesF_form hv
  have HV := Lib.hid hv
  have hs1 := hb1.size
  cases ho : forestP (l.length + 1) (l.drop 0) with
  | none =>
    have HZ := HX.out.trans (by rw [HRD.out, ho])
    subst HZ
    clear ho hg hv
    go_wp2_with fail
    go_ret2
    exact ⟨_, rfl, .inl ⟨_, _, rfl, rfl⟩, hb1⟩
  | some x =>
    obtain ⟨f, r⟩ := x
    obtain ⟨rfl, hq⟩ := hg _ _ ho
    cases r with
    | cons c t =>
      have HZ := HX.out.trans (by rw [HRD.out, ho])
      subst HZ
      have htl := forestP_len _ _ _ _ ho
      have bq : (q != (l.length : Int)) = true := by
        simp only [List.drop_zero, List.length_cons] at htl hq
        rw [hq]; simp; omega
      clear ho hg hv hq htl
      go_wp2_with fail
      go_ret2
      exact ⟨_, rfl, .inl ⟨_, _, rfl, rfl⟩, hb1⟩
    | nil =>
      have hr : readP l = some g := by rw [HRD.out, ho]
      have SF := SM.out g hr
      have C := Lib.hid (bounded_any g _ w1 (liesF_lies hv) SF)
      have bq : (q != (l.length : Int)) = false := by
        rw [hq]; simp
      clear ho hg hv hq
      by_cases h0 : foErr g = 0
      · have HZ := HX.out.trans (show _ = (g, 0) by rw [hr]; exact if_pos h0)
        subst HZ
        rw [h0, if_pos rfl] at C
        clear hr h0 HX HRD SM SF
        go_wp2_with fail
        refine C.out.mono ?_
        rintro e w2 ⟨rfl, hb2⟩
        have HK := Lib.hid (liesF_keeps HV.out ((Keeps.of_below hb2 : Keeps w.heap.size w1 w2)))
        have HB2 := Lib.hid (hb1.trans (hb2.mono hs1))
        clear hb1 hb2
        go_wp2_with fail
        go_ret2
        exact ⟨_, rfl, HK.out, HB2.out⟩
      · have HZ := HX.out.trans (show _ = (Fo.nil, foErr g) by rw [hr]; exact if_neg h0)
        subst HZ
        rw [if_neg h0] at C
        clear hr h0 HX HRD SM SF
        go_wp2_with fail
        refine C.out.mono ?_
        rintro e w2 ⟨rfl, hb2⟩
        have HB2 := Lib.hid (hb1.trans (hb2.mono hs1))
        clear hb1 hb2
        go_wp2_with fail
        go_ret2
        exact ⟨.slice none 0 0, rfl, .inl ⟨_, _, rfl, rfl⟩, HB2.out⟩

set_option maxRecDepth 100000 in
set_option maxHeartbeats 8000000 in
theorem texts_any (f : Fo) (v : Value) (l : List UInt8) (w : World) (hl : Lies w v f) (_ : (⟨l.toArray⟩ : ByteArray).size ≤ maxLen) :
    Calls Tryz.prog 7 #[v, .string ⟨l.toArray⟩] w fun e w' => e = .returned (.bool true) ∧ Below w.heap.size w w' := by
  have GR := Lib.hid (fun w => grown_any w)
  have GF := Lib.hid (great_any f.size f v w (Nat.le_refl _) hl)
  obtain ⟨a, cap, rfl⟩ := lies_form hl
  cases hgf : great f with
  | true =>
    rw [hgf] at GF
    clear hl hgf
    go_enter Tryz.func7, Tryz.ntmps7
    go_wp2_with fail
    refine GF.out.mono ?_
    rintro e w1 ⟨rfl, hb1⟩
    have hs1 := hb1.size
    go_wp2_with fail
    refine (GR.out _).mono ?_
    rintro e w2 ⟨rfl, hb2⟩
    go_wp2_with fail
    go_ret
    exact ⟨rfl, hb1.trans (hb2.mono hs1)⟩
  | false =>
    rw [hgf] at GF
    by_cases h3 : 3000 < l.length
    · have d3 : decide ((3000 : Int) < (l.length : Int)) = true := by simp; omega
      clear hl hgf
      go_enter Tryz.func7, Tryz.ntmps7
      go_wp2_with fail
      refine GF.out.mono ?_
      rintro e w1 ⟨rfl, hb1⟩
      have hs1 := hb1.size
      go_wp2_with fail
      refine (GR.out _).mono ?_
      rintro e w2 ⟨rfl, hb2⟩
      go_wp2_with fail
      go_ret
      exact ⟨rfl, hb1.trans (hb2.mono hs1)⟩
    · have d3 : decide ((3000 : Int) < (l.length : Int)) = false := by simp; omega
      have SM := small_lies hl hgf
      have TP := Lib.hid (fun w1 (hw : Below w.heap.size w w1) => print_tree f _ w1 (lies_below hl hw) SM)
      have QP := Lib.hid (fun w1 (hw : Below w.heap.size w w1) => qprint_any f _ w1 (lies_below hl hw) SM)
      have TS := Lib.hid (fun w1 => tparse_any l w1 (by omega))
      have QS := Lib.hid (fun w1 => qparse_any l w1 (by omega))
      generalize printF f = P at *
      obtain ⟨s, ep⟩ := P
      simp only at TP QP
      have hself : ((⟨s.toArray⟩ : ByteArray) == ⟨s.toArray⟩) = true := by rw [str_eq]; simp
      have SA := Lib.hid (fun v u w1 => same_refl (parsed l).1.size (parsed l).1 (Nat.le_refl _) v u w1)
      generalize parsed l = R at *
      obtain ⟨g, er⟩ := R
      simp only at TS QS SA
      clear hl hgf h3 SM
      go_enter Tryz.func7, Tryz.ntmps7
      go_wp2_with fail
      refine GF.out.mono ?_
      rintro e w1 ⟨rfl, hb1⟩
      have B1 := hb1
      clear hb1
      go_wp2_with fail
      refine (TP.out _ B1).mono ?_
      rintro e w2 ⟨rfl, hb2⟩
      have B2 : Below w.heap.size w w2 := B1.trans (hb2.mono B1.size)
      clear hb2
      go_wp2_with fail
      refine (QP.out _ B2).mono ?_
      rintro e w3 ⟨rfl, hb3⟩
      have B3 : Below w.heap.size w w3 := B2.trans (hb3.mono B2.size)
      clear hb3
      go_wp2_with fail
      refine (TS.out _).mono ?_
      rintro e w4 ⟨x, rfl, hx4, hb4⟩
      obtain ⟨ax, cx, rfl⟩ := liesF_form hx4
      have HX := Lib.hid (liesF_lies hx4)
      have B4 : Below w.heap.size w w4 := B3.trans (hb4.mono B3.size)
      clear hb4 hx4
      go_wp2_with fail
      refine (QS.out _).mono ?_
      rintro e w5 ⟨y, rfl, hy5, hb5⟩
      obtain ⟨ay, cy, rfl⟩ := liesF_form hy5
      have HX5 := Lib.hid (lies_below HX.out hb5)
      have HY5 := Lib.hid (liesF_lies hy5)
      have B5 : Below w.heap.size w w5 := B4.trans (hb5.mono B4.size)
      clear hb5 hy5
      go_wp2_with fail
      refine (SA.out _ _ _ HX5.out HY5.out).mono ?_
      rintro e w6 ⟨rfl, hb6⟩
      have B6 : Below w.heap.size w w6 := B5.trans (hb6.mono B5.size)
      clear hb6
      go_wp2_with fail
      refine (GR.out _).mono ?_
      rintro e w7 ⟨rfl, hb7⟩
      go_wp2_with fail
      go_ret
      exact ⟨rfl, B6.trans (hb7.mono B6.size)⟩
end Go.Proofs.YtefongoinlcgaaaGreat
