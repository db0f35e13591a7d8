/- Channel: the document's Do, whole; the law's act on both. -/
import Derived.Test.YtldbmdalmhhpfaaCwY
import Derived.Test.YtldbmdalmhhpfaaCwM
import Derived.Test.YtldbmdalmhhpfaaCwI
import Derived.Test.YtldbmdalmhhpfaaCwG
namespace Go.Proofs.Ytldbmdalmhhpfaa
open Go.RowKit Go.Lib Go.Ow Go.Cw Go.Cq
set_option linter.unusedVariables false
set_option linter.unusedSimpArgs false
set_option maxRecDepth 100000

theorem rDo_any (kd i k : Int) (l : List Gm) (hgd : Cq.Good l) (lb : Nat) (la : Option Addr) (lc : Nat) (w : World) (h : Gs w lb l la) :
    Calls Try.prog 29 #[.slice la l.length lc, .agg #[.int .i64 kd, .int .i64 i, .int .i64 k]] w fun e w' => LG w lb (doL l kd i k) (doG l kd i k) (doE l kd i k) e w' := by
  by_cases h1 : kd = 1
  · subst h1; exact rDo_take i k l hgd lb la lc w h
  by_cases h2 : kd = 2
  · subst h2; exact rDo_drop i k l hgd lb la lc w h
  by_cases h3 : kd = 3
  · subst h3; exact rDo_double i k l hgd lb la lc w h
  by_cases h4 : kd = 4
  · subst h4; exact rDo_delay i k l hgd lb la lc w h
  by_cases h5 : kd = 5
  · subst h5; exact rDo_swap i k l hgd lb la lc w h
  by_cases h6 : kd = 6
  · subst h6; exact rDo_tick i k l hgd lb la lc w h
  by_cases h7 : kd = 7
  · subst h7; exact rDo_cut i k l hgd lb la lc w h
  exact rDo_none kd h1 h2 h3 h4 h5 h6 h7 i k l hgd lb la lc w h
/-- What an act leaves. -/
def actL (l : List Gm) (a : Ac) : List Gm := if a.put = true then putL l a.g else doL l a.kd a.i a.k
/-- A flight and a list that tells the same, apart from one another. -/
structure Pa (w : World) (fb r : Nat) (l : List Gm) (b : Nat) (a : Option Addr) : Prop where
  fl : Fl w fb r l
  gs : Gs w b l a
  n1 : b ≠ fb
  n2 : b ≠ r
/-- What an act leaves in memory. -/
def Pas (w : World) (fb r : Nat) (l' : List Gm) (lb : Nat) (e : Ending) (w' : World) : Prop := ∃ a' c' b' r', e = .returned (.tuple #[.slice a' l'.length c', .bool true]) ∧ Pa w' fb r' l' b' a' ∧ (r' = r ∨ w.heap.size ≤ r') ∧ (b' = lb ∨ w.heap.size ≤ b') ∧ Xr fb r w w'
theorem pas_end {w w1 w2 : World} {fb r lb b1 : Nat} {l l' : List Gm} {a1 : Option Addr} {c1 : Nat} {e : Ending} (hp : Pa w fb r l lb none ∨ ∃ a, Pa w fb r l lb a) (h1 : Below w.heap.size w w1) (hg : Gs w1 b1 l' a1) (hb : b1 = lb ∨ w.heap.size ≤ b1) (hd : Dn w1 fb r l' w2) (he : e = .returned (.tuple #[.slice a1 l'.length c1, .bool true])) : Pas w fb r l' lb e w2 := by
  obtain ⟨a, hp⟩ : ∃ a, Pa w fb r l lb a := by rcases hp with h | h; exact ⟨_, h⟩; exact h
  obtain ⟨r', hf, hr⟩ := hd.fl
  have hlow := hp.fl.low
  have hrl := hp.fl.rl
  have hs := h1.size
  by_cases hz : l' = []
  · subst hz
    refine ⟨a1, c1, if lb = r' then w2.heap.size + fb + r' + 1 else lb, r', he, ⟨hf, Or.inl rfl, ?_, ?_⟩, by omega, ?_, (Xr.of_below h1).trans hd.xr (Or.inl rfl)⟩
    · split
      · have := hd.xr.size; omega
      · exact hp.n1
    · split
      · have := hd.xr.size; omega
      · assumption
    · split
      · right; have := hd.xr.size; omega
      · exact Or.inl rfl
  · have hbl : b1 < w1.heap.size := by
      rcases hg with h | ⟨o, -, h, -⟩
      · exact absurd h hz
      · exact h
    have n1 : b1 ≠ fb := by have := hp.n1; omega
    have n2 : b1 ≠ r := by have := hp.n2; omega
    exact ⟨a1, c1, b1, r', he, ⟨hf, hg.keep hd.xr.size (hd.xr.block b1 hbl n1 n2), n1, by omega⟩, by omega, by omega, (Xr.of_below h1).trans hd.xr (Or.inl rfl)⟩
theorem dn_then {w1 w2 w3 : World} {fb r : Nat} {l : List Gm} (h : Dn w1 fb r l w2) (k : Below w2.heap.size w2 w3) : Dn w1 fb r l w3 := by
  obtain ⟨r', hf, hr⟩ := h.fl
  exact ⟨⟨r', hf.below k, hr⟩, h.xr.trans (Xr.of_below k) (Or.inl rfl)⟩
theorem and_one_k (x : Int) : bits BinOp.and IntKind.i64 x 1 = 0 ∨ bits BinOp.and IntKind.i64 x 1 = 1 := by
  have h : (BitVec.ofInt 64 x &&& BitVec.ofInt 64 1).toNat = (BitVec.ofInt 64 x).toNat % 2 := by
    rw [BitVec.toNat_and]
    exact Nat.and_one_is_mod _
  unfold bits
  show IntKind.i64.wrap (((BitVec.ofInt 64 x &&& BitVec.ofInt 64 1).toNat : Nat) : Int) = 0 ∨ IntKind.i64.wrap (((BitVec.ofInt 64 x &&& BitVec.ofInt 64 1).toNat : Nat) : Int) = 1
  rw [h]
  rcases Nat.mod_two_eq_zero_or_one (BitVec.ofInt 64 x).toNat with e | e <;> rw [e]
  · exact Or.inl (by decide)
  · exact Or.inr (by decide)
theorem doL_take (l : List Gm) (i k : Int) : doL l 1 i k = takeL l i := by
  have e : doE l 1 i k = takeE l i := by simp [doE]
  unfold doL takeL
  rw [e]
  by_cases hz : takeE l i = 0
  · rw [if_neg (by simpa using hz), if_pos rfl, if_pos hz]
  · rw [if_pos hz, if_neg hz]
set_option maxHeartbeats 16000000 in
theorem does_any (w : World) (fb r : Nat) (l : List Gm) (lb : Nat) (la : Option Addr) (lc : Nat) (hp : Pa w fb r l lb la) (a : Ac) :
    Calls Try.prog 13 #[.pointer (some ⟨fb, 0, none⟩), .slice la l.length lc, .agg #[.bool a.put, .int .i64 a.g.fr, .int .i64 a.g.to, .string a.g.bs, .int .i64 a.g.wt, .int .i64 a.kd, .int .i64 a.i, .int .i64 a.k]] w fun e w' => Pas w fb r (actL l a) lb e w' := by
  obtain ⟨put, ⟨ga, gb, gs, gt⟩, kd, i, k⟩ := a
  obtain ⟨W0, hW0⟩ : ∃ W0, W0 = w.alloc (.cells #[.bool put, .int .i64 ga, .int .i64 gb, .string gs, .int .i64 gt, .int .i64 kd, .int .i64 i, .int .i64 k] 39) := ⟨_, rfl⟩
  have b0 : Below w.heap.size w W0 := by rw [hW0]; exact gAl _ _
  have r0 : W0.rangeAt w.heap.size 0 [.bool put, .int .i64 ga, .int .i64 gb, .string gs, .int .i64 gt, .int .i64 kd, .int .i64 i, .int .i64 k] := by rw [hW0]; exact range_box0 w [.bool put, .int .i64 ga, .int .i64 gb, .string gs, .int .i64 gt, .int .i64 kd, .int .i64 i, .int .i64 k] _
  have hz0 : w.heap.size < W0.heap.size := by rw [hW0]; simp
  have HW : Hid (W0 = w.alloc (.cells #[.bool put, .int .i64 ga, .int .i64 gb, .string gs, .int .i64 gt, .int .i64 kd, .int .i64 i, .int .i64 k] 39)) := Lib.hid hW0
  have HP := Lib.hid hp
  have HB0 := Lib.hid b0
  have HC : Hid (∀ V, Below W0.heap.size W0 V → V.rangeAt w.heap.size 0 [.bool put, .int .i64 ga, .int .i64 gb, .string gs, .int .i64 gt, .int .i64 kd, .int .i64 i, .int .i64 k]) := Lib.hid (fun V hV j u hj => (hV.cell (p := ⟨w.heap.size, 0 + j, none⟩) hz0).trans (r0 j u hj))
  clear b0 r0 hz0 hW0 hp
  have FACTS : Hid (∀ V, Below W0.heap.size W0 V → V.cell? ⟨w.heap.size, 0, none⟩ = some (.bool put) ∧ V.cell? ⟨w.heap.size, 1, none⟩ = some (.int .i64 ga) ∧ V.cell? ⟨w.heap.size, 2, none⟩ = some (.int .i64 gb) ∧ V.cell? ⟨w.heap.size, 3, none⟩ = some (.string gs) ∧ V.cell? ⟨w.heap.size, 4, none⟩ = some (.int .i64 gt) ∧ V.cell? ⟨w.heap.size, 5, none⟩ = some (.int .i64 kd) ∧ V.cell? ⟨w.heap.size, 6, none⟩ = some (.int .i64 i) ∧ V.cell? ⟨w.heap.size, 7, none⟩ = some (.int .i64 k)) := Lib.hid (fun V hV => ⟨HC.out V hV 0 _ rfl, HC.out V hV 1 _ rfl, HC.out V hV 2 _ rfl, HC.out V hV 3 _ rfl, HC.out V hV 4 _ rfl, HC.out V hV 5 _ rfl, HC.out V hV 6 _ rfl, HC.out V hV 7 _ rfl⟩)
  clear HC
  cases put with
  | true =>
    have HE : Hid (actL l ⟨true, ⟨ga, gb, gs, gt⟩, kd, i, k⟩ = putL l ⟨ga, gb, gs, gt⟩) := Lib.hid rfl
    have HR := Lib.hid (rPut_any ga gb gs gt l HP.out.fl.good lb la lc W0 (HP.out.gs.below HB0.out))
    have HQ := Lib.hid (fun V (hV : Below w.heap.size w V) => put_any ga gb gs gt V fb r l (HP.out.fl.below hV))
    generalize actL l ⟨true, ⟨ga, gb, gs, gt⟩, kd, i, k⟩ = l2 at *
    generalize putE l ⟨ga, gb, gs, gt⟩ = E at *
    have he : (E == E) = true := by simp
    go_enter Try.func13, Try.ntmps13
    go_upto_region 1 with (fail)
    rw [← HW.out]
    obtain ⟨c0, c1, c2, c3, c4, c5, c6, c7⟩ := FACTS.out W0 (Below.refl _ _)
    go_wp2_with fail
    refine HR.out.mono ?_
    rintro e w1 ⟨b1, a1, d1, bb, rfl, hg1, hb1⟩
    have HB1 := Lib.hid b1
    have HG1 := Lib.hid (show Gs w1 bb (putL l ⟨ga, gb, gs, gt⟩) a1 ∧ (bb = lb ∨ w.heap.size ≤ bb) from ⟨hg1, by have := HB0.out.size; omega⟩)
    clear b1 hg1 hb1 c0 c1 c2 c3 c4 c5 c6 c7
    obtain ⟨c0, c1, c2, c3, c4, c5, c6, c7⟩ := FACTS.out w1 HB1.out
    go_wp2_with fail
    refine (HQ.out _ (gNx HB0.out HB1.out)).mono ?_
    rintro e w2 ⟨rfl, hd⟩
    have HD := Lib.hid hd
    clear hd c0 c1 c2 c3 c4 c5 c6 c7
    go_wp2_with fail
    refine bodyPost_ret (v := .tuple #[.slice a1 (putL l ⟨ga, gb, gs, gt⟩).length d1, .bool true]) (by simp [results, Try.results13, go_sem]) rfl ?_
    rw [HE.out]
    exact pas_end (Or.inr ⟨_, HP.out⟩) (gNx HB0.out HB1.out) HG1.out.1 HG1.out.2 HD.out rfl
  | false =>
    by_cases h1 : kd = 1
    · subst h1
      rcases and_one_k k with hk | hk
      ·
        have HE : Hid (actL l ⟨false, ⟨ga, gb, gs, gt⟩, 1, i, k⟩ = doL l 1 i k) := Lib.hid (rfl)
        have HR := Lib.hid (rDo_any 1 i k l HP.out.fl.good lb la lc W0 (HP.out.gs.below HB0.out))
        have HQ := Lib.hid (fun V (hV : Below w.heap.size w V) => do_any 1 i k V fb r l (HP.out.fl.below hV))
        obtain ⟨xa, xb, xs, xt, hgm⟩ := gm_parts (doG l 1 i k)
        rw [hgm] at HR HQ
        rw [show gmC ⟨xa, xb, xs, xt⟩ = [.int .i64 xa, .int .i64 xb, .string xs, .int .i64 xt] from rfl] at HQ
        generalize actL l ⟨false, ⟨ga, gb, gs, gt⟩, 1, i, k⟩ = l2 at *
        generalize doE l 1 i k = E at *
        clear hgm
        have he : (E == E) = true := by simp
        have e1 : (xa == xa) = true := by simp
        have e2 : (xb == xb) = true := by simp
        have e4 : (xt == xt) = true := by simp
        go_enter Try.func13, Try.ntmps13
        go_upto_region 1 with (fail)
        rw [← HW.out]
        obtain ⟨c0, c1, c2, c3, c4, c5, c6, c7⟩ := FACTS.out W0 (Below.refl _ _)
        go_wp2_with fail
        refine HR.out.mono ?_
        rintro e w1 ⟨b1, a1, d1, bb, rfl, hg1, hb1⟩
        rw [show gmC ⟨xa, xb, xs, xt⟩ = [.int .i64 xa, .int .i64 xb, .string xs, .int .i64 xt] from rfl]
        have HB1 := Lib.hid b1
        have HG1 := Lib.hid (show Gs w1 bb (doL l 1 i k) a1 ∧ (bb = lb ∨ w.heap.size ≤ bb) from ⟨hg1, by have := HB0.out.size; omega⟩)
        clear b1 hg1 hb1 c0 c1 c2 c3 c4 c5 c6 c7
        obtain ⟨c0, c1, c2, c3, c4, c5, c6, c7⟩ := FACTS.out w1 HB1.out
        have hl0 : w.heap.size < w1.heap.size := by
          have h1 := HB1.out.size
          have h2 : W0.heap.size = w.heap.size + 1 := by rw [HW.out, World.size_alloc]
          omega
        go_wp2_with fail
        refine (HQ.out _ (gNx (gNx HB0.out HB1.out) (gAl _ _))).mono ?_
        rintro e w2 ⟨rfl, hd⟩
        have hz2 : w1.heap.size < w2.heap.size := by have := hd.xr.size; simp only [World.size_alloc] at this; omega
        have hblk : w2.heap[w1.heap.size]? = some (.cells #[.int .i64 xa, .int .i64 xb, .string xs, .int .i64 xt] 35 (0, 0)) := by
          have h1 := (gNx HB0.out HB1.out).size
          have h2 := HP.out.fl.low
          have h3 := HP.out.fl.rl
          have h4 : w1.heap.size < (w1.alloc (.cells #[.int .i64 xa, .int .i64 xb, .string xs, .int .i64 xt] 35)).heap.size := (by rw [World.size_alloc]; exact Nat.lt_succ_self _); rw [hd.xr.block w1.heap.size h4 (by omega) (by omega)]
          exact heap_alloc_new w1 _
        have p0 := cell_of_row w2 w1.heap.size 0 _ _ (0, 0) hblk
        have p1 := cell_of_row w2 w1.heap.size 1 _ _ (0, 0) hblk
        have p2 := cell_of_row w2 w1.heap.size 2 _ _ (0, 0) hblk
        have p3 := cell_of_row w2 w1.heap.size 3 _ _ (0, 0) hblk
        simp only [List.getElem?_toArray, List.getElem?_cons_zero, List.getElem?_cons_succ] at p0 p1 p2 p3
        have HD := Lib.hid hd
        clear hd c0 c1 c2 c3 c4 c5 c6 c7 hblk hl0
        go_wp2_with fail
        refine bodyPost_ret (v := .tuple #[.slice a1 (doL l 1 i k).length d1, .bool true]) (by simp [results, Try.results13, go_sem]) rfl ?_
        rw [HE.out]
        exact pas_end (Or.inr ⟨_, HP.out⟩) (gNx HB0.out HB1.out) HG1.out.1 HG1.out.2 (dn_then (Dn.open (gAl w1 _) HD.out) (gAl w2 _)) rfl
      ·
        have HE : Hid (actL l ⟨false, ⟨ga, gb, gs, gt⟩, 1, i, k⟩ = takeL l i) := Lib.hid (doL_take l i k)
        have HR := Lib.hid (rTake_any i l HP.out.fl.good lb la lc W0 (HP.out.gs.below HB0.out))
        have HQ := Lib.hid (fun V (hV : Below w.heap.size w V) => take_any i V fb r l (HP.out.fl.below hV))
        obtain ⟨xa, xb, xs, xt, hgm⟩ := gm_parts (takeG l i)
        rw [hgm] at HR HQ
        rw [show gmC ⟨xa, xb, xs, xt⟩ = [.int .i64 xa, .int .i64 xb, .string xs, .int .i64 xt] from rfl] at HQ
        generalize actL l ⟨false, ⟨ga, gb, gs, gt⟩, 1, i, k⟩ = l2 at *
        generalize takeE l i = E at *
        clear hgm
        have he : (E == E) = true := by simp
        have e1 : (xa == xa) = true := by simp
        have e2 : (xb == xb) = true := by simp
        have e4 : (xt == xt) = true := by simp
        go_enter Try.func13, Try.ntmps13
        go_upto_region 1 with (fail)
        rw [← HW.out]
        obtain ⟨c0, c1, c2, c3, c4, c5, c6, c7⟩ := FACTS.out W0 (Below.refl _ _)
        go_wp2_with fail
        refine HR.out.mono ?_
        rintro e w1 ⟨b1, a1, d1, bb, rfl, hg1, hb1⟩
        rw [show gmC ⟨xa, xb, xs, xt⟩ = [.int .i64 xa, .int .i64 xb, .string xs, .int .i64 xt] from rfl]
        have HB1 := Lib.hid b1
        have HG1 := Lib.hid (show Gs w1 bb (takeL l i) a1 ∧ (bb = lb ∨ w.heap.size ≤ bb) from ⟨hg1, by have := HB0.out.size; omega⟩)
        clear b1 hg1 hb1 c0 c1 c2 c3 c4 c5 c6 c7
        obtain ⟨c0, c1, c2, c3, c4, c5, c6, c7⟩ := FACTS.out w1 HB1.out
        have hl0 : w.heap.size < w1.heap.size := by
          have h1 := HB1.out.size
          have h2 : W0.heap.size = w.heap.size + 1 := by rw [HW.out, World.size_alloc]
          omega
        go_wp2_with fail
        refine (HQ.out _ (gNx (gNx HB0.out HB1.out) (gAl _ _))).mono ?_
        rintro e w2 ⟨rfl, hd⟩
        have hz2 : w1.heap.size < w2.heap.size := by have := hd.xr.size; simp only [World.size_alloc] at this; omega
        have hblk : w2.heap[w1.heap.size]? = some (.cells #[.int .i64 xa, .int .i64 xb, .string xs, .int .i64 xt] 35 (0, 0)) := by
          have h1 := (gNx HB0.out HB1.out).size
          have h2 := HP.out.fl.low
          have h3 := HP.out.fl.rl
          have h4 : w1.heap.size < (w1.alloc (.cells #[.int .i64 xa, .int .i64 xb, .string xs, .int .i64 xt] 35)).heap.size := (by rw [World.size_alloc]; exact Nat.lt_succ_self _); rw [hd.xr.block w1.heap.size h4 (by omega) (by omega)]
          exact heap_alloc_new w1 _
        have p0 := cell_of_row w2 w1.heap.size 0 _ _ (0, 0) hblk
        have p1 := cell_of_row w2 w1.heap.size 1 _ _ (0, 0) hblk
        have p2 := cell_of_row w2 w1.heap.size 2 _ _ (0, 0) hblk
        have p3 := cell_of_row w2 w1.heap.size 3 _ _ (0, 0) hblk
        simp only [List.getElem?_toArray, List.getElem?_cons_zero, List.getElem?_cons_succ] at p0 p1 p2 p3
        have HD := Lib.hid hd
        clear hd c0 c1 c2 c3 c4 c5 c6 c7 hblk hl0
        go_wp2_with fail
        refine bodyPost_ret (v := .tuple #[.slice a1 (takeL l i).length d1, .bool true]) (by simp [results, Try.results13, go_sem]) rfl ?_
        rw [HE.out]
        exact pas_end (Or.inr ⟨_, HP.out⟩) (gNx HB0.out HB1.out) HG1.out.1 HG1.out.2 (dn_then (Dn.open (gAl w1 _) HD.out) (gAl w2 _)) rfl
    · have n1 : (kd == 1) = false := by simpa using h1
      clear h1
      have HE : Hid (actL l ⟨false, ⟨ga, gb, gs, gt⟩, kd, i, k⟩ = doL l kd i k) := Lib.hid (rfl)
      have HR := Lib.hid (rDo_any kd i k l HP.out.fl.good lb la lc W0 (HP.out.gs.below HB0.out))
      have HQ := Lib.hid (fun V (hV : Below w.heap.size w V) => do_any kd i k V fb r l (HP.out.fl.below hV))
      obtain ⟨xa, xb, xs, xt, hgm⟩ := gm_parts (doG l kd i k)
      rw [hgm] at HR HQ
      rw [show gmC ⟨xa, xb, xs, xt⟩ = [.int .i64 xa, .int .i64 xb, .string xs, .int .i64 xt] from rfl] at HQ
      generalize actL l ⟨false, ⟨ga, gb, gs, gt⟩, kd, i, k⟩ = l2 at *
      generalize doE l kd i k = E at *
      clear hgm
      have he : (E == E) = true := by simp
      have e1 : (xa == xa) = true := by simp
      have e2 : (xb == xb) = true := by simp
      have e4 : (xt == xt) = true := by simp
      go_enter Try.func13, Try.ntmps13
      go_upto_region 1 with (fail)
      rw [← HW.out]
      obtain ⟨c0, c1, c2, c3, c4, c5, c6, c7⟩ := FACTS.out W0 (Below.refl _ _)
      go_wp2_with fail
      refine HR.out.mono ?_
      rintro e w1 ⟨b1, a1, d1, bb, rfl, hg1, hb1⟩
      rw [show gmC ⟨xa, xb, xs, xt⟩ = [.int .i64 xa, .int .i64 xb, .string xs, .int .i64 xt] from rfl]
      have HB1 := Lib.hid b1
      have HG1 := Lib.hid (show Gs w1 bb (doL l kd i k) a1 ∧ (bb = lb ∨ w.heap.size ≤ bb) from ⟨hg1, by have := HB0.out.size; omega⟩)
      clear b1 hg1 hb1 c0 c1 c2 c3 c4 c5 c6 c7
      obtain ⟨c0, c1, c2, c3, c4, c5, c6, c7⟩ := FACTS.out w1 HB1.out
      have hl0 : w.heap.size < w1.heap.size := by
        have h1 := HB1.out.size
        have h2 : W0.heap.size = w.heap.size + 1 := by rw [HW.out, World.size_alloc]
        omega
      go_wp2_with fail
      refine (HQ.out _ (gNx (gNx HB0.out HB1.out) (gAl _ _))).mono ?_
      rintro e w2 ⟨rfl, hd⟩
      have hz2 : w1.heap.size < w2.heap.size := by have := hd.xr.size; simp only [World.size_alloc] at this; omega
      have hblk : w2.heap[w1.heap.size]? = some (.cells #[.int .i64 xa, .int .i64 xb, .string xs, .int .i64 xt] 35 (0, 0)) := by
        have h1 := (gNx HB0.out HB1.out).size
        have h2 := HP.out.fl.low
        have h3 := HP.out.fl.rl
        have h4 : w1.heap.size < (w1.alloc (.cells #[.int .i64 xa, .int .i64 xb, .string xs, .int .i64 xt] 35)).heap.size := (by rw [World.size_alloc]; exact Nat.lt_succ_self _); rw [hd.xr.block w1.heap.size h4 (by omega) (by omega)]
        exact heap_alloc_new w1 _
      have p0 := cell_of_row w2 w1.heap.size 0 _ _ (0, 0) hblk
      have p1 := cell_of_row w2 w1.heap.size 1 _ _ (0, 0) hblk
      have p2 := cell_of_row w2 w1.heap.size 2 _ _ (0, 0) hblk
      have p3 := cell_of_row w2 w1.heap.size 3 _ _ (0, 0) hblk
      simp only [List.getElem?_toArray, List.getElem?_cons_zero, List.getElem?_cons_succ] at p0 p1 p2 p3
      have HD := Lib.hid hd
      clear hd c0 c1 c2 c3 c4 c5 c6 c7 hblk hl0
      go_wp2_with fail
      refine bodyPost_ret (v := .tuple #[.slice a1 (doL l kd i k).length d1, .bool true]) (by simp [results, Try.results13, go_sem]) rfl ?_
      rw [HE.out]
      exact pas_end (Or.inr ⟨_, HP.out⟩) (gNx HB0.out HB1.out) HG1.out.1 HG1.out.2 (dn_then (Dn.open (gAl w1 _) HD.out) (gAl w2 _)) rfl
end Go.Proofs.Ytldbmdalmhhpfaa
