/- Balls: sightOf. -/
import Derived.Test.YtjlfpjjfldbknaaGreatBaA
namespace Go.Proofs.YtjlfpjjfldbknaaGreat
open Go.RowKit Go.Lib Go.Fq Go.Pq Go.Iq Go.Nq Go.Ow Go.Bq
set_option linter.unusedVariables false
set_option linter.unusedSimpArgs false
set_option maxRecDepth 100000

theorem hpInfo : (Tryz.prog.info? 80).map (fun i => (i.zero, i.size, i.bytes)) = some (some (.agg #[.int .i64 0, .float .f64 0]), 2, 16) := by kernel_rfl
/-- All rows of roads, for the one that makes them. -/
structure NetB (w : World) (base rb : Nat) (vs : List Value) (rows : List (List Rd)) : Prop where
  hb : base ≤ rb
  outer : w.heap[rb]? = some (.cells vs.toArray 78 (0, 0))
  len : vs.length = rows.length
  own : ∀ u (hu : u < vs.length) (hr : u < rows.length), Own w base 80 2 vs[u] rows[u].length (rdRow rows[u])
  apart : Apart vs
theorem NetB.keep {w w' : World} {base rb : Nat} {vs : List Value} {rows : List (List Rd)} (h : NetB w base rb vs rows) (hb : Below w.heap.size w w') : NetB w' base rb vs rows :=
  ⟨h.hb, (hb.block rb (Array.getElem?_eq_some_iff.1 h.outer).1).trans h.outer, h.len, fun u hu hr => (h.own u hu hr).below hb, h.apart⟩
/-- A road more. -/
theorem NetB.add {w : World} {base rb u vb : Nat} {vs : List Value} {rows : List (List Rd)} (h : NetB w base rb vs rows) (hu : u < rows.length) (r : Rd) (hb : base ≤ w.heap.size) (hvb : w.heap[vb]? = some (.cells (rdC r).toArray 80 (0, 0))) (hf : (rows.getD u []).length < 1048576) :
    ∃ v v' w' n a c, vs[u]? = some v ∧ v = .slice a n c ∧ (∀ ty, (Builtin.append_ #[78, 78] ty #[v, .slice (some ⟨vb, 0, none⟩) 1 1]).run Tryz.prog w = .ok v' w') ∧ w'.heap[rb]? = w.heap[rb]? ∧ NetB (w'.setCell ⟨rb, u, none⟩ v') base rb (vs.set u v') (addR rows u r) ∧ Wr2 base 80 78 w (w'.setCell ⟨rb, u, none⟩ v') ∧ (∃ a' c', v' = .slice a' (n + 1) c') ∧ Wr2 base 80 78 w w' := by
  have hv : u < vs.length := by rw [h.len]; exact hu
  have ho := h.own u hv hu
  have hgd : rows.getD u [] = rows[u] := by simp [List.getD_eq_getElem?_getD, hu]
  rw [hgd] at hf
  obtain ⟨a, c, hs⟩ := ho.slice
  obtain ⟨v', w', hrun, hrow, hkq⟩ := own_app (P := Tryz.prog) (vb := vb) (vs := rdC r) Tryz.underlying78 hpInfo rfl ho hb hvb rfl (rdC_one r) (by omega) (by omega)
  have hin : ∀ j (hj : j < vs.length) g n c, vs[j] = .slice (some ⟨g, 0, none⟩) n c → 0 < c → g < w.heap.size := by
    intro j hj g n c e hc
    rcases h.own j hj (by rw [← h.len]; exact hj) with ⟨_, _, a, e2⟩ | ⟨g', cap, cur, e2, hbg, hg, _⟩
    · rw [e2] at e; cases e; omega
    · rw [e2] at e; cases e; exact (Array.getElem?_eq_some_iff.1 hg).1
  have hrb := (Array.getElem?_eq_some_iff.1 h.outer).1
  have hnr : NotRow vs[u] rb := by
    intro n' c' e
    rcases ho with ⟨_, _, a, e2⟩ | ⟨g', cap, cur, e2, hbg, hg, _⟩
    · rw [e2] at e; cases e; rfl
    · rw [e2] at e
      simp only [Value.slice.injEq, Option.some.injEq, Addr.mk.injEq, and_true] at e
      obtain ⟨rfl, _⟩ := e
      rw [h.outer] at hg; cases hg
  have hq := ((hkq (rb + 1)).block rb hrb (by omega) hnr)
  have hq2 := hq.trans h.outer
  have hW := Wr2.of_kq (f := 78) hkq ho
  have hgn : ∀ (o : Nat) (x : Value) {e : TypeId} {base' k n : Nat} {v0 : Value} {xs : List Value}, e ≠ 78 → Own w' base' e k v0 n xs → Own (w'.setCell ⟨rb, o, none⟩ x) base' e k v0 n xs := fun o x e base' k n v0 xs hne h0 =>
    h0.keep (fun j cur hj => Below.heap_setCell _ _ _ _ (heap_ne hj hq2 hne))
  refine ⟨vs[u], v', w', rows[u].length, a, c, by simp [hv], hs, hrun, hq, ⟨h.hb, ?_, ?_, ?_, apart_set h.apart hv hkq hin⟩, hW.setCell hq2 h.hb _, ?_, hW⟩
  · rw [heap_setCell_same w' rb u _ _ v' hq2]
    simp
  · rw [List.length_set, addR_len]; exact h.len
  · intro j hj hr
    rw [List.length_set] at hj
    refine hgn u v' (by decide) ?_
    rw [addR_len] at hr
    have hgr : (addR rows u r)[j]'(by rw [addR_len]; exact hr) = (addR rows u r).getD j [] := by simp [List.getD_eq_getElem?_getD, addR_len, hr]
    rw [hgr, addR_at r hu j, List.getElem_set]
    by_cases e : u = j
    · subst e
      rw [if_pos rfl, if_pos rfl, hgd, List.length_append, rdRow_snoc]
      exact hrow
    · rw [if_neg e, if_neg (fun e2 => e e2.symm)]
      have hgj : rows.getD j [] = rows[j] := by simp [List.getD_eq_getElem?_getD, hr]
      rw [hgj]
      have hoj := h.own j hj hr
      rcases hoj with ⟨h1, h2, h3⟩ | ⟨g, cap, cur, e2, hbg, hg, hnc, hcm, hcs, hx⟩
      · exact Or.inl ⟨h1, h2, h3⟩
      · by_cases hc0 : cap = 0
        · subst hc0
          have hl0 : rows[j].length = 0 := by omega
          refine Or.inl ⟨hl0, by rw [← hx, hl0]; simp, some ⟨g, 0, none⟩, by rw [e2, hl0]⟩
        · refine Or.inr ⟨g, cap, cur, e2, hbg, ?_, hnc, hcm, hcs, hx⟩
          rw [(hkq (g + 1)).block g (Array.getElem?_eq_some_iff.1 hg).1 (by omega) (fun n' c' e3 => (h.apart u j hv hj e g n' c' _ _ e3 e2).resolve_right hc0)]
          exact hg
  · obtain ⟨a', c', e2⟩ := hrow.slice
    exact ⟨a', c', e2⟩
theorem hwInfo : (Tryz.prog.info? 78).map (fun i => (i.zero, i.size, i.bytes)) = some (some (.slice none 0 0), 1, 24) := by kernel_rfl
theorem make_hops (n : Nat) (hn : n ≤ 1048576) (V : World) : (Instr.makeSlice 70 (.int .i64 (n : Int)) (.int .i64 (n : Int))).run Tryz.prog V = .ok (.slice (some ⟨V.heap.size, 0, none⟩) n n) (V.alloc (.cells (List.replicate n (.slice none 0 0)).toArray 78)) := by
  obtain ⟨i0, hi, hz0, hz1, hz2⟩ := info_parts hwInfo
  have h := run_make (P := Tryz.prog) V 70 78 i0 _ Tryz.underlying70 hi hz0 .i64 .i64 (n : Int) (n : Int) (by omega) (by omega) (by rw [hz2]; omega) (by omega)
  rw [h, hz1]
  simp only [Int.toNat_natCast, Nat.mul_one, Value.cells]
  have e : madeCells #[Value.slice none 0 0] n = (List.replicate n (.slice none 0 0)).toArray := by
    rw [← toList_madeCells_one]
  rw [e]
theorem netb_cell {w : World} {base rb u : Nat} {vs : List Value} {rows : List (List Rd)} (h : NetB w base rb vs rows) (hu : u < rows.length) : ∃ a n c, ∀ V, NetB V base rb vs rows → V.cell? ⟨rb, u, none⟩ = some (.slice a n c) := by
  have hv : u < vs.length := by rw [h.len]; exact hu
  obtain ⟨a, c, hs⟩ := (h.own u hv hu).slice
  refine ⟨a, rows[u].length, c, fun V hV => ?_⟩
  rw [cell_of_row V rb u _ _ (0, 0) hV.outer]
  simp [hv, hs]
theorem netb_val {w : World} {base rb u : Nat} {vs : List Value} {rows : List (List Rd)} {v x : Value} (h : NetB w base rb vs rows) (hv : vs[u]? = some v) (hc : w.cell? ⟨rb, u, none⟩ = some x) : v = x := by
  rw [row_cell_of h.outer hv] at hc
  exact Option.some.inj hc
theorem netb_start {w : World} {base rb n : Nat} (hb : base ≤ rb) (h : w.heap[rb]? = some (.cells (Array.replicate n (.slice none 0 0)) 78 (0, 0))) : NetB w base rb (List.replicate n (.slice none 0 0)) (List.replicate n []) :=
  ⟨hb, by rw [h]; simp, by simp, fun u hu hr => by simp only [List.getElem_replicate]; exact Or.inl ⟨rfl, rfl, none, rfl⟩, fun i j hi hj hij g n c n' c' h1 => by simp at h1⟩
theorem dwInfo : (Tryz.prog.info? 90).map (fun i => (i.zero, i.size, i.bytes)) = some (some (.slice none 0 0), 1, 24) := by kernel_rfl
theorem make_dsts (n : Nat) (hn : n ≤ 1048576) (V : World) : (Instr.makeSlice 66 (.int .i64 (n : Int)) (.int .i64 (n : Int))).run Tryz.prog V = .ok (.slice (some ⟨V.heap.size, 0, none⟩) n n) (V.alloc (.cells (List.replicate n (.slice none 0 0)).toArray 90)) := by
  obtain ⟨i0, hi, hz0, hz1, hz2⟩ := info_parts dwInfo
  have h := run_make (P := Tryz.prog) V 66 90 i0 _ Tryz.underlying66 hi hz0 .i64 .i64 (n : Int) (n : Int) (by omega) (by omega) (by rw [hz2]; omega) (by omega)
  rw [h, hz1]
  simp only [Int.toNat_natCast, Nat.mul_one, Value.cells]
  have e : madeCells #[Value.slice none 0 0] n = (List.replicate n (.slice none 0 0)).toArray := by
    rw [← toList_madeCells_one]
  rw [e]
theorem NetB.hps {w : World} {base rb db : Nat} {vs : List Value} {rows : List (List Rd)} {ds : Array Value} (h : NetB w base rb vs rows) (hd : w.heap[db]? = some (.cells ds 90 (0, 0))) (c : Nat) : HpsIn w db rows (.slice (some ⟨rb, 0, none⟩) rows.length c) := by
  refine ⟨rb, c, _, rfl, ⟨(fun e => by subst e; rw [h.outer] at hd; cases hd), h.outer⟩, fun u hu => ?_⟩
  have hv : u < vs.length := by rw [h.len]; exact hu
  have ho := h.own u hv hu
  obtain ⟨a, c2, hs⟩ := ho.slice
  refine ⟨a, c2, ?_, ?_⟩
  · rw [cell_of_row w rb u _ _ (0, 0) h.outer]
    simp [hv, hs]
  · by_cases h0 : rows[u].length = 0
    · exact Or.inl (List.length_eq_zero_iff.1 h0)
    · obtain ⟨g, cap, e1, e2, e3, e4, e5⟩ := ho.range (by omega)
      rcases ho with ⟨h1, -⟩ | ⟨g2, cap2, cur, f1, f2, f3, -⟩
      · exact absurd h1 h0
      have f4 := e1.symm.trans f1
      simp only [Value.slice.injEq, Option.some.injEq, Addr.mk.injEq, and_true, true_and] at f4
      obtain ⟨rfl, rfl⟩ := f4
      rw [hs] at e1
      simp only [Value.slice.injEq] at e1
      refine Or.inr ⟨g, cur, e1.1, ⟨(fun e => by subst e; rw [f3] at hd; cases hd), f3⟩, fun k hk => ?_⟩
      have g0 := fun j (hj : j < 2) => flat_get rdC 2 rdC_len rows[u] k j hk hj
      have g1 := e4 (k * 2 + 0) _ ((g0 0 (by omega)).trans rfl)
      have g2 := e4 (k * 2 + 1) _ ((g0 1 (by omega)).trans rfl)
      exact ⟨by simpa using g1, by simpa using g2⟩
/-- What sightOf tells. -/
def SightEnds (w : World) (G : Gr) (max : Nat) (e : Ending) (w' : World) : Prop :=
  (checkG G ≠ 0 ∧ e = .returned (.tuple #[.pointer none, .int .i64 (checkG G)]) ∧ Below w.heap.size w w') ∨
  (checkG G = 0 ∧ limitF max ≠ 0 ∧ e = .returned (.tuple #[.pointer none, .int .i64 (limitF max)]) ∧ Below w.heap.size w w') ∨
  (checkG G = 0 ∧ limitF max = 0 ∧ Below w.heap.size w w' ∧ ∃ sb db B0 na nc la lc hv, e = .returned (.tuple #[.pointer (some ⟨sb, 0, none⟩), .int .i64 0]) ∧ w.heap.size ≤ sb ∧ w.heap.size ≤ db ∧ Sg w' sb db B0 (liveG G) max na nc la lc hv)
def SiS (V : World) (sb ll n rb q : Nat) : Prop := V.cell? ⟨sb, 2, none⟩ = some (.slice (some ⟨rb, 0, none⟩) n n) ∧ V.cell? ⟨ll, 2, none⟩ = some (.float .f64 (qw q))
/-- Behind the laying of a sight. -/
def SiCut (W3 : World) (H : Gr) (an : Option Addr) (cn : Nat) (al : Option Addr) (cl max : Nat) (x : Value) (wx : World) : Prop := ∃ sb rb db, x = .pointer (some ⟨sb, 0, none⟩) ∧ (W3.heap.size ≤ sb ∧ W3.heap.size ≤ rb ∧ W3.heap.size ≤ db ∧ sb ≠ db ∧ sb ≠ rb) ∧ Below W3.heap.size W3 wx ∧ wx.heap[sb]? = some (.cells #[.slice an H.nodes.length cn, .slice al H.links.length cl, .slice (some ⟨rb, 0, none⟩) H.nodes.length H.nodes.length, .float .f64 max, .slice (some ⟨db, 0, none⟩) H.nodes.length H.nodes.length] 72 (0, 0)) ∧ wx.heap[rb]? = some (.cells (Array.replicate H.nodes.length (.slice none 0 0)) 78 (0, 0)) ∧ wx.heap[db]? = some (.cells (Array.replicate H.nodes.length (.slice none 0 0)) 90 (0, 0))
theorem three_new (V : World) (o1 o2 o3 : Obj) : (((V.alloc o1).alloc o2).alloc o3).heap[V.heap.size]? = some o1 ∧ (((V.alloc o1).alloc o2).alloc o3).heap[V.heap.size + 1]? = some o2 ∧ (((V.alloc o1).alloc o2).alloc o3).heap[V.heap.size + 1 + 1]? = some o3 := by
  obtain ⟨h1, h2⟩ := two_new V o1 o2
  have h3 := heap_alloc_new ((V.alloc o1).alloc o2) o3
  have hs : ((V.alloc o1).alloc o2).heap.size = V.heap.size + 1 + 1 := by simp
  rw [hs] at h3
  exact ⟨((gAl _ o3).block _ (by omega)).trans h1, ((gAl _ o3).block _ (by omega)).trans h2, h3⟩
set_option maxHeartbeats 32000000 in
theorem sightOf_any (G : Gr) (na : Option Addr) (nc : Nat) (la : Option Addr) (lc : Nat) (max : Nat) (w : World) (hin : GrIn w G na la) (hm : max < 2 ^ 64) :
    Calls Tryz.prog 19 #[.agg #[.slice na G.nodes.length nc, .slice la G.links.length lc], .float .f64 max] w fun e w' => SightEnds w G max e w' := by
  have hst := g_storeL
  obtain ⟨W1, hW1⟩ : ∃ W1, W1 = w.alloc (.cells #[.slice na G.nodes.length nc, .slice la G.links.length lc] 25) := ⟨_, rfl⟩
  have b1 : Below w.heap.size w W1 := by rw [hW1]; exact gAl _ _
  have r1 : W1.heap[w.heap.size]? = some (.cells #[.slice na G.nodes.length nc, .slice la G.links.length lc] 25 (0, 0)) := by rw [hW1]; exact heap_alloc_new w _
  obtain ⟨g0, g1, -, -⟩ := two_cells r1
  have HB1 := Lib.hid b1
  have HLV := Lib.hid (gLive_any G na nc la lc W1 (hin.below b1))
  have HLM := Lib.hid (fun V => limit_any max V hm)
  have HMX := Lib.hid hm
  have HWT : Hid (Wts G) := Lib.hid hin.wts
  clear hin b1 r1 hm
  by_cases hz : checkG G = 0
  case neg =>
    have HZ := Lib.hid hz
    rw [liveA_no hz] at HLV
    have hz2 : (checkG G != 0) = true := by simpa using hz
    obtain ⟨ce, hce⟩ : ∃ ce, ce = checkG G := ⟨_, rfl⟩
    rw [← hce] at hz2 HLV
    have HCE := Lib.hid hce
    clear hz hce
    go_enter Tryz.func19, Tryz.ntmps19
    go_upto_region 1 with (fail)
    rw [← hW1]
    clear hW1
    go_wp2_with fail
    refine HLV.out.mono ?_
    rintro e V1 ⟨vn, vl, rfl, hgv, hb⟩
    obtain ⟨an, cn, rfl⟩ := hgv.nodes.slice
    obtain ⟨al, cl, rfl⟩ := hgv.links.slice
    have HB := Lib.hid (gNx HB1.out hb)
    clear hb hgv g0 g1
    go_wp2_with fail
    refine bodyPost_ret (v := .tuple #[.pointer none, .int .i64 ce]) (by simp [results, Tryz.results19, go_sem]) rfl ?_
    exact Or.inl ⟨HZ.out, by rw [HCE.out], gNx HB.out (gAl _ _)⟩
  case pos =>
    rw [liveA_ok hz, hz] at HLV
    have HZ := Lib.hid hz
    obtain ⟨hz2, hll⟩ := live_keeps hz
    have HLL := Lib.hid hll
    obtain ⟨n1, n2, n3, n4⟩ := check_zero.1 hz2
    have HNL : Hid ((liveG G).nodes.length ≤ 256 ∧ (liveG G).links.length ≤ 4096) := Lib.hid ⟨n1, n2⟩
    have HNP := Lib.hid n3
    have HZ2 := Lib.hid hz2
    have HWL := Lib.hid HWT.out.live
    clear hz hz2 hll n1 n2 n3 n4
    obtain ⟨H, hH⟩ : ∃ H, H = liveG G := ⟨_, rfl⟩
    have HHE := Lib.hid hH
    rw [← hH] at HLV HLL HNL HNP HZ2 HWL
    clear hH
    have HWF : Hid (∀ y ∈ H.links, ∃ q, 4 ≤ q ∧ q ≤ 4194304 ∧ y.w = qw q) := Lib.hid (fun y hy => by
      have hy2 : y ∈ (liveG H).links := by rw [HLL.out]; exact hy
      obtain ⟨-, -, a1, a2, a3, a4, a5, a6, a7⟩ := live_ends HZ2.out hy2
      exact weight_q y.w (HWL.out y a7) a6)
    by_cases hl : limitF max = 0
    case neg =>
      have HL := Lib.hid hl
      have hz2 : (limitF max != 0) = true := by simpa using hl
      obtain ⟨ce, hce⟩ : ∃ ce, ce = limitF max := ⟨_, rfl⟩
      rw [← hce] at hz2 HLM
      have HCE := Lib.hid hce
      clear hl hce
      go_enter Tryz.func19, Tryz.ntmps19
      go_upto_region 1 with (fail)
      rw [← hW1]
      clear hW1
      go_wp2_with fail
      refine HLV.out.mono ?_
      rintro e V1 ⟨vn, vl, rfl, hgv, hb⟩
      obtain ⟨an, cn, rfl⟩ := hgv.nodes.slice
      obtain ⟨al, cl, rfl⟩ := hgv.links.slice
      have HB := Lib.hid (gNx HB1.out hb)
      clear hb hgv g0 g1
      go_wp2_with (go_at_call 31; refine (HLM.out _).mono ?_; rintro e w' ⟨rfl, rfl⟩)
      refine bodyPost_ret (v := .tuple #[.pointer none, .int .i64 ce]) (by simp [results, Tryz.results19, go_sem]) rfl ?_
      exact Or.inr (Or.inl ⟨HZ.out, HL.out, by rw [HCE.out], gNx HB.out (gAl _ _)⟩)
    case pos =>
      have HL := Lib.hid hl
      rw [hl] at HLM
      clear hl
      go_enter Tryz.func19, Tryz.ntmps19
      go_upto_region 1 with (fail)
      rw [← hW1]
      clear hW1
      go_wp2_with fail
      refine HLV.out.mono ?_
      rintro e V1 ⟨vn, vl, rfl, hgv, hb⟩
      obtain ⟨an, cn, hvn, hnin, -⟩ := ownN_in hgv.nodes
      obtain ⟨al, cl, hvl, hlin, -⟩ := ownL_in hgv.links
      subst hvn
      subst hvl
      have HB := Lib.hid (gNx HB1.out hb)
      have HNI := Lib.hid hnin
      have HLI0 := Lib.hid hlin
      clear hb g0 g1 hgv hnin hlin HLV
      go_upto_region 4 with (fail)
      obtain ⟨W3, hW3⟩ : ∃ W3, W3 = V1.alloc (.cells #[.slice an H.nodes.length cn, .slice al H.links.length cl] 25) := ⟨_, rfl⟩
      rw [← hW3]
      have hb3 : Below V1.heap.size V1 W3 := by rw [hW3]; exact gAl _ _
      have HB3 := Lib.hid (gNx HB.out hb3)
      have HLB : Hid (W3.heap[V1.heap.size]? = some (.cells #[.slice an H.nodes.length cn, .slice al H.links.length cl] 25 (0, 0))) := Lib.hid (by rw [hW3]; exact heap_alloc_new V1 _)
      have HN3 : Hid (NodesIn W3 W3.heap.size H.nodes an) := Lib.hid (HNI.out.kept (fun i hi => hb3.block i hi) hb3.size)
      have HK3 : Hid (LinksIn W3 W3.heap.size H.links al) := Lib.hid (HLI0.out.kept (fun i hi => hb3.block i hi) hb3.size)
      obtain ⟨lb, hlb⟩ : ∃ lb, lb = V1.heap.size := ⟨_, rfl⟩
      rw [← hlb] at HLB ⊢
      have HLBS : Hid (lb < W3.heap.size) := Lib.hid (Array.getElem?_eq_some_iff.1 HLB.out).1
      have HKG3 : Hid (∀ V, Below W3.heap.size W3 V → V.cell? ⟨lb, 0, none⟩ = some (.slice an H.nodes.length cn) ∧ V.cell? ⟨lb, 1, none⟩ = some (.slice al H.links.length cl)) := Lib.hid (fun V hV => by
        have h := two_cells ((hV.block lb HLBS.out).trans HLB.out)
        exact ⟨h.1, h.2.1⟩)
      clear hW3 hlb hb3
      obtain ⟨k0, k1⟩ := HKG3.out W3 (Below.refl _ _)
      go_upto_region 8 with (go_at_call 31; refine (HLM.out _).mono ?_; rintro e w' ⟨rfl, rfl⟩)
      clear k0 k1
      go_cut [10] (fun x wx => SiCut W3 H an cn al cl max x wx)
      case first =>
        have hmk := make_hops H.nodes.length (by have := HNL.out; omega)
        have hmd := make_dsts H.nodes.length (by have := HNL.out; omega)
        refine wp_region_held_drew (S := fun V => V.cell? ⟨lb, 0, none⟩ = some (.slice an H.nodes.length cn) ∧ V.cell? ⟨lb, 1, none⟩ = some (.slice al H.links.length cl)) (by kernel_rfl) (HKG3.out _ (Below.drew (Below.refl _ _))) (fun hH => ?_)
        have B0 : Hid (Below W3.heap.size W3 W3.drew) := Lib.hid (Below.drew (Below.refl _ _))
        generalize W3.drew = V0 at *
        have hs0 := HKG3.out V0 B0.out
        refine tk 0 (by assumption) rfl (by kernel_rfl) (fun _ _ _ h => h) (fun V hV => by obtain ⟨hx0, hx1⟩ := hV; go_simp; try with_reducible rfl) ?_
        try simp only [Act.put, sqA, sqB, sqC, sqD, sqE, sqF]
        refine tk 1 (by assumption) rfl (by kernel_rfl) (fun _ _ _ h => h) (fun V hV => by go_simp; try with_reducible rfl) ?_
        try simp only [Act.put, sqA, sqB, sqC, sqD, sqE, sqF]
        refine tk 3 (by assumption) rfl (by kernel_rfl) (fun _ _ _ h => h) (fun V hV => by go_simp; try with_reducible rfl) ?_
        try simp only [Act.put, sqA, sqB, sqC, sqD, sqE, sqF]
        refine tk 4 (by assumption) rfl (by kernel_rfl) (fun _ _ _ h => h) (fun V hV => by go_simp; try with_reducible rfl) ?_
        try simp only [Act.put, sqA, sqB, sqC, sqD, sqE, sqF]
        refine wpAnyH_ready (rs := [2, 5]) (by kernel_rfl) (by simp) ?_
        refine AllReadyH.cons (o := _) rfl (fun K hK => ?_) (AllReadyH.cons (o := _) rfl (fun K hK => ?_) (AllReadyH.nil))
        · have hm1 := hmk
          go_simp
          refine hK.out _ _ (HKG3.out _ (gNx B0.out (gAl _ _))) (fun hH => ?_)
          clear hK K hm1
          try simp only [Act.put, sqA, sqB, sqC, sqD, sqE, sqF]
          refine wpAnyH_ready (rs := [5]) (by kernel_rfl) (by simp) ?_
          refine AllReadyH.cons (o := _) rfl (fun K hK => ?_) AllReadyH.nil
          have hm1 := hmd
          go_simp
          refine hK.out _ _ (HKG3.out _ (gNx B0.out (gNx (gAl _ _) (gAl _ _)))) (fun hH => ?_)
          clear hK K hm1
          try simp only [Act.put, sqA, sqB, sqC, sqD, sqE, sqF]
          refine tk 6 (by assumption) rfl (by kernel_rfl) (fun _ _ _ h => h) (fun V hV => by go_simp; try with_reducible rfl) ?_
          try simp only [Act.put, sqA, sqB, sqC, sqD, sqE, sqF]
          refine wpAnyH_ready (rs := [7]) (by kernel_rfl) (by simp) ?_
          refine AllReadyH.cons (o := _) rfl (fun K hK => ?_) AllReadyH.nil
          go_simp
          refine hK.out _ _ (HKG3.out _ (gNx B0.out (gNx (gNx (gAl _ _) (gAl _ _)) (gAl _ _)))) (fun hH => ?_)
          clear hK K
          try simp only [Act.put, sqA, sqB, sqC, sqD, sqE, sqF]
          refine tk 8 (by assumption) rfl (by kernel_rfl) (fun _ _ _ h => h) (fun V hV => by go_simp; try with_reducible rfl) ?_
          try simp only [Act.put, sqA, sqB, sqC, sqD, sqE, sqF]
          refine wpAnyH_done (by kernel_rfl) ?_ _
          go_wp2_with fail
          go_meet
          exact ⟨V0.heap.size + 1 + 1, V0.heap.size, V0.heap.size + 1, rfl, ⟨by have := B0.out.size; simp; omega, B0.out.size, by have := B0.out.size; simp; omega, by omega, by omega⟩, gNx B0.out (gNx (gNx (gAl _ _) (gAl _ _)) (gAl _ _)), (three_new V0 _ _ _).2.2, (three_new V0 _ _ _).1, (three_new V0 _ _ _).2.1⟩
        · have hm1 := hmd
          go_simp
          refine hK.out _ _ (HKG3.out _ (gNx B0.out (gAl _ _))) (fun hH => ?_)
          clear hK K hm1
          try simp only [Act.put, sqA, sqB, sqC, sqD, sqE, sqF]
          refine wpAnyH_ready (rs := [2]) (by kernel_rfl) (by simp) ?_
          refine AllReadyH.cons (o := _) rfl (fun K hK => ?_) AllReadyH.nil
          have hm1 := hmk
          go_simp
          refine hK.out _ _ (HKG3.out _ (gNx B0.out (gNx (gAl _ _) (gAl _ _)))) (fun hH => ?_)
          clear hK K hm1
          try simp only [Act.put, sqA, sqB, sqC, sqD, sqE, sqF]
          refine tk 6 (by assumption) rfl (by kernel_rfl) (fun _ _ _ h => h) (fun V hV => by go_simp; try with_reducible rfl) ?_
          try simp only [Act.put, sqA, sqB, sqC, sqD, sqE, sqF]
          refine wpAnyH_ready (rs := [7]) (by kernel_rfl) (by simp) ?_
          refine AllReadyH.cons (o := _) rfl (fun K hK => ?_) AllReadyH.nil
          go_simp
          refine hK.out _ _ (HKG3.out _ (gNx B0.out (gNx (gNx (gAl _ _) (gAl _ _)) (gAl _ _)))) (fun hH => ?_)
          clear hK K
          try simp only [Act.put, sqA, sqB, sqC, sqD, sqE, sqF]
          refine tk 8 (by assumption) rfl (by kernel_rfl) (fun _ _ _ h => h) (fun V hV => by go_simp; try with_reducible rfl) ?_
          try simp only [Act.put, sqA, sqB, sqC, sqD, sqE, sqF]
          refine wpAnyH_done (by kernel_rfl) ?_ _
          go_wp2_with fail
          go_meet
          exact ⟨V0.heap.size + 1 + 1, V0.heap.size + 1, V0.heap.size, rfl, ⟨by have := B0.out.size; simp; omega, by have := B0.out.size; simp; omega, B0.out.size, by omega, by omega⟩, gNx B0.out (gNx (gNx (gAl _ _) (gAl _ _)) (gAl _ _)), (three_new V0 _ _ _).2.2, (three_new V0 _ _ _).2.1, (three_new V0 _ _ _).1⟩
      case rest =>
        obtain ⟨sb, rb, db, rfl, ⟨hsb, hrb, hdb, hsd, hsr⟩, hbw, hsh, hrh, hdh⟩ := hcut
        obtain ⟨wo, rfl⟩ : ∃ wo : World, wo = wc := ⟨_, rfl⟩
        have HNW0 := Lib.hid (netb_start hrb hrh)
        have HNH := Lib.hid hsh
        have HDH := Lib.hid hdh
        have HBW := Lib.hid hbw
        have HNB : Hid (W3.heap.size ≤ sb ∧ W3.heap.size ≤ rb ∧ W3.heap.size ≤ db ∧ sb ≠ db) := Lib.hid ⟨hsb, hrb, hdb, hsd⟩
        have HLI : Hid (∀ V, Below W3.heap.size W3 V → LinksIn V V.heap.size H.links al) := Lib.hid (fun V hV => HK3.out.kept (fun i hi => hV.block i hi) hV.size)
        have HNN : Hid (∀ V, Below W3.heap.size W3 V → NodesIn V V.heap.size H.nodes an) := Lib.hid (fun V hV => HN3.out.kept (fun i hi => hV.block i hi) hV.size)
        obtain ⟨k0, k1⟩ := HKG3.out wo hbw
        clear hsb hrb hdb hsd hsr hbw hsh hrh hdh
        go_wp2_with fail
        clear k0 k1
        go_loopw [44] (fun v wr => ∃ (k : Nat) (vs : List Value), v = .int .i64 (k : Int) ∧ k ≤ H.links.length ∧ NetB wr W3.heap.size rb vs (netL H.nodes (H.links.take k)) ∧ Wr2 W3.heap.size 80 78 wo wr) (fun v _ => H.links.length - (RowKit.intOf v).toNat)
        case atStart => exact ⟨0, _, rfl, by omega, by rw [List.take_zero, netL_nil]; exact HNW0.out, Wr2.refl _ _ _ _⟩
        case round =>
          obtain ⟨k, vs, rfl, hk, hnw, hwr⟩ := hrel
          have hbel : Below W3.heap.size W3 wr := HBW.out.trans (hwr.below HBW.out.size)
          have HNW := Lib.hid hnw
          have HWR := Lib.hid hwr
          have HBE := Lib.hid hbel
          have HNC : Hid (∀ V : World, V.heap[sb]? = wr.heap[sb]? → V.cell? ⟨sb, 0, none⟩ = some (.slice an H.nodes.length cn) ∧ V.cell? ⟨sb, 2, none⟩ = some (.slice (some ⟨rb, 0, none⟩) H.nodes.length H.nodes.length)) := Lib.hid (fun V hV => by
            have h := five_cells (hV.trans (hwr.kept HNH.out (by decide) (by decide)))
            exact ⟨h.1, h.2.2.1⟩)
          have HNBS : Hid (sb < wr.heap.size) := Lib.hid (Nat.lt_of_lt_of_le (Array.getElem?_eq_some_iff.1 HNH.out).1 hwr.size)
          clear hnw hwr hbel
          by_cases hlt : k < H.links.length
          · have hlti : (k : Int) < (H.links.length : Int) := by omega
            have hk0 : (0 : Int) ≤ (k : Int) := by omega
            have hkw : IntKind.i64.wrap ((k : Int) + 1) = (k : Int) + 1 := by rw [IntKind.wrap_i64]; have := HNL.out; omega
            have HK1 : Hid (k + 1 ≤ H.links.length ∧ H.links.length - (k + 1) < H.links.length - k ∧ ((k : Int) + 1).toNat = k + 1 ∧ (k : Int) + 1 = ((k + 1 : Nat) : Int)) := Lib.hid ⟨by omega, by omega, by omega, by omega⟩
            obtain ⟨b, o, hal, hb, hc⟩ := (HLI.out wr HBE.out).at k hlt
            obtain ⟨c0, c1, c2, c3⟩ := hc k hlt
            obtain ⟨e1, e2, e3, e4, e5, -⟩ := live_ends HZ2.out (show H.links[k] ∈ (liveG H).links by rw [HLL.out]; exact List.getElem_mem hlt)
            obtain ⟨q, q1, q2, q3⟩ := HWF.out _ (List.getElem_mem hlt)
            have hqn : qn H.links[k].w = q := by rw [q3]; exact qn_qw (by omega)
            have HSN := Lib.hid (netL_snoc (H.links.take k) e3 e4 e5)
            rw [List.take_append_getElem hlt, hqn] at HSN
            clear hc hb e1 e2 hqn
            generalize H.links[k] = y at *
            obtain ⟨ya, yb, yw, yu⟩ := y
            simp only at c0 c1 c2 c3 e3 e4 e5 q3 HSN
            subst q3
            have HPA := Lib.hid (fun (V : World) (hV : Below wr.heap.size wr V) => bPlace0_any ya V sb H.nodes an cn (HNC.out V (hV.block sb HNBS.out)).1 (HNN.out V (HBE.out.trans (hV.mono HBE.out.size))) HNP.out (by have := HNL.out; omega))
            have HPB := Lib.hid (fun (V : World) (hV : Below wr.heap.size wr V) => bPlace0_any yb V sb H.nodes an cn (HNC.out V (hV.block sb HNBS.out)).1 (HNN.out V (HBE.out.trans (hV.mono HBE.out.size))) HNP.out (by have := HNL.out; omega))
            generalize Nq.ahead H.nodes ya = pa at *
            generalize Nq.ahead H.nodes yb = pb at *
            obtain ⟨W6, hW6⟩ : ∃ W6, W6 = wr.alloc (.cells #[.int .i64 ya, .int .i64 yb, .float .f64 (qw q), .bool yu] 62) := ⟨_, rfl⟩
            have b6 : Below wr.heap.size wr W6 := by rw [hW6]; exact gAl _ _
            have r6 : W6.heap[wr.heap.size]? = some (.cells #[.int .i64 ya, .int .i64 yb, .float .f64 (qw q), .bool yu] 62 (0, 0)) := by rw [hW6]; exact heap_alloc_new wr _
            have s6 : wr.heap.size < W6.heap.size := by rw [hW6]; simp
            obtain ⟨ll, hll⟩ : ∃ ll, ll = wr.heap.size := ⟨_, rfl⟩
            rw [← hll] at r6 s6
            have HB6 := Lib.hid b6
            have HS6 := Lib.hid s6
            have HLK := Lib.hid r6
            have HC6 : Hid (∀ V : World, V.heap[ll]? = W6.heap[ll]? → V.cell? ⟨ll, 0, none⟩ = some (.int .i64 ya) ∧ V.cell? ⟨ll, 1, none⟩ = some (.int .i64 yb) ∧ V.cell? ⟨ll, 2, none⟩ = some (.float .f64 (qw q))) := Lib.hid (fun V hV => by
              have := hV.trans r6
              exact ⟨by rw [cell_of_row V _ 0 _ _ (0, 0) this]; rfl, by rw [cell_of_row V _ 1 _ _ (0, 0) this]; rfl, by rw [cell_of_row V _ 2 _ _ (0, 0) this]; rfl⟩)
            subst hal
            go_upto_region 12 with (fail)
            rw [← hW6, ← hll]
            clear hW6 c0 c1 c2 c3 b6 r6 s6 hll
            obtain ⟨m0, m1⟩ := HNC.out W6 (HB6.out.block _ HNBS.out)
            obtain ⟨l0, l1, l2⟩ := HC6.out W6 rfl
            go_wp2_with fail
            refine (HPA.out W6 HB6.out).mono ?_
            rintro e W7 ⟨rfl, hb7⟩
            have HB7 := Lib.hid hb7
            clear hb7 m0 m1 l0 l1 l2
            obtain ⟨m0, m1⟩ := HNC.out W7 ((gNx HB6.out HB7.out).block _ HNBS.out)
            obtain ⟨l0, l1, l2⟩ := HC6.out W7 (HB7.out.block _ HS6.out)
            go_wp2_with fail
            refine (HPB.out W7 (gNx HB6.out HB7.out)).mono ?_
            rintro e W8 ⟨rfl, hb8⟩
            have HB8 := Lib.hid (gNx HB7.out hb8)
            clear hb8 m0 m1 l0 l1 l2 HPA HPB
            go_upto_region 14 with (fail)
            have HV8 : Hid (NetB W8 W3.heap.size rb vs (netL H.nodes (H.links.take k))) := Lib.hid (HNW.out.keep (gNx HB6.out HB8.out))
            have HR8 : Hid (Wr2 W3.heap.size 80 78 wo W8) := Lib.hid (HWR.out.trans (Wr2.of_below (gNx HB6.out HB8.out)))
            have HX8 : Hid (∀ V, V.heap[sb]? = W8.heap[sb]? → V.heap[ll]? = W8.heap[ll]? → SiS V sb ll H.nodes.length rb q) := Lib.hid (fun V h1 h2 => by
              obtain ⟨m0, m1⟩ := HNC.out V (h1.trans ((gNx HB6.out HB8.out).block _ HNBS.out))
              obtain ⟨l0, l1, l2⟩ := HC6.out V (h2.trans (HB8.out.block _ HS6.out))
              exact ⟨m1, l2⟩)
            have HT8 : Hid ((∃ cs, W8.heap[sb]? = some (.cells cs 72 (0, 0))) ∧ (∃ cs, W8.heap[ll]? = some (.cells cs 62 (0, 0)))) := Lib.hid ⟨⟨_, HR8.out.kept HNH.out (by decide) (by decide)⟩, ⟨_, (HB8.out.block _ HS6.out).trans HLK.out⟩⟩
            have HU8 : Hid (pa < H.nodes.length ∧ pb < H.nodes.length ∧ W3.heap.size ≤ W8.heap.size) := Lib.hid ⟨e3, e4, Nat.le_trans HBE.out.size (gNx HB6.out HB8.out).size⟩
            have HDG : Hid (∀ u, ((netL H.nodes (H.links.take k)).getD u []).length < 8193) := Lib.hid (fun u => Nat.lt_of_le_of_lt (deg_one H.nodes _ u) (by rw [List.length_take]; have := HNL.out; omega))
            have hap : (pa : Int) < (H.nodes.length : Int) := by omega
            have hap0 : (0 : Int) ≤ (pa : Int) := by omega
            have hbp : (pb : Int) < (H.nodes.length : Int) := by omega
            have hbp0 : (0 : Int) ≤ (pb : Int) := by omega
            clear HNC HC6 e3 e4 e5 hlt
            have LENX : Hid ((netL H.nodes (H.links.take k)).length = H.nodes.length) := Lib.hid (netL_len _ _)
            have HDX := HDG
            have HTT := HT8
            have HTX : Hid (sb < W8.heap.size ∧ ll < W8.heap.size) := Lib.hid ⟨by obtain ⟨cs, h⟩ := HT8.out.1; exact (Array.getElem?_eq_some_iff.1 h).1, by obtain ⟨cs, h⟩ := HT8.out.2; exact (Array.getElem?_eq_some_iff.1 h).1⟩
            have HSZ : Hid (W8.heap.size ≤ W8.heap.size) := Lib.hid (Nat.le_refl _)
            go_cut [] (fun wx => ∃ vs2, NetB wx W3.heap.size rb vs2 (addR (netL H.nodes (H.links.take k)) pa (pb, q)) ∧ Wr2 W3.heap.size 80 78 W8 wx)
            case first =>
              refine wp_region_held_drew (S := fun V => SiS V sb ll H.nodes.length rb q) (by kernel_rfl) (HX8.out _ rfl rfl) (fun hH => ?_)
              have B0 : Hid (Below W8.heap.size W8 W8.drew) := Lib.hid (Below.drew (Below.refl _ _))
              generalize W8.drew = V0 at *
              have hs0 : SiS V0 sb ll H.nodes.length rb q := HX8.out V0 (B0.out.block _ HTX.out.1) (B0.out.block _ HTX.out.2)
              obtain ⟨a0, n0, c0, HA0⟩ : ∃ a0 n0 c0, Hid (∀ V, NetB V W3.heap.size rb vs (netL H.nodes (H.links.take k)) → V.cell? ⟨rb, pa, none⟩ = some (.slice a0 n0 c0)) := by
                obtain ⟨a0, n0, c0, h⟩ := netb_cell HV8.out (u := pa) (by rw [LENX.out]; exact HU8.out.1)
                exact ⟨a0, n0, c0, Lib.hid h⟩
              refine tk 0 (by assumption) rfl (by kernel_rfl) (fun _ _ _ h => h) (fun V hV => by go_simp; try with_reducible rfl) ?_
              try simp only [Act.put, sqA, sqB, sqC, sqD, sqE, sqF]
              refine tk 1 (by assumption) rfl (by kernel_rfl) (fun _ _ _ h => h) (fun V hV => by go_simp; try with_reducible rfl) ?_
              try simp only [Act.put, sqA, sqB, sqC, sqD, sqE, sqF]
              refine tk 2 (by assumption) rfl (by kernel_rfl) (fun _ _ _ h => h) (fun V hV => by go_simp; try with_reducible rfl) ?_
              try simp only [Act.put, sqA, sqB, sqC, sqD, sqE, sqF]
              refine tk 3 (by assumption) rfl (by kernel_rfl) (fun _ _ _ h => h) (fun V hV => by obtain ⟨hx1, hx2⟩ := hV; go_simp; try with_reducible rfl) ?_
              try simp only [Act.put, sqA, sqB, sqC, sqD, sqE, sqF]
              refine tk 4 (by assumption) rfl (by kernel_rfl) (fun _ _ _ h => h) (fun V hV => by go_simp; try with_reducible rfl) ?_
              try simp only [Act.put, sqA, sqB, sqC, sqD, sqE, sqF]
              refine tk 5 (by assumption) rfl (by kernel_rfl) (fun _ _ _ h => h) (fun V hV => by go_simp; try with_reducible rfl) ?_
              try simp only [Act.put, sqA, sqB, sqC, sqD, sqE, sqF]
              refine tk 6 (by assumption) rfl (by kernel_rfl) (fun _ _ _ h => h) (fun V hV => by go_simp; try with_reducible rfl) ?_
              try simp only [Act.put, sqA, sqB, sqC, sqD, sqE, sqF]
              refine tk 7 (by assumption) rfl (by kernel_rfl) (fun _ _ _ h => h) (fun V hV => by go_simp; try with_reducible rfl) ?_
              try simp only [Act.put, sqA, sqB, sqC, sqD, sqE, sqF]
              refine tk 8 (by assumption) rfl (by kernel_rfl) (fun _ _ _ h => h) (fun V hV => by obtain ⟨hx1, hx2⟩ := hV; go_simp; try with_reducible rfl) ?_
              try simp only [Act.put, sqA, sqB, sqC, sqD, sqE, sqF]
              refine tk 9 (by assumption) rfl (by kernel_rfl) (fun _ _ _ h => h) (fun V hV => by go_simp; try with_reducible rfl) ?_
              try simp only [Act.put, sqA, sqB, sqC, sqD, sqE, sqF]
              refine tk 10 (by assumption) rfl (by kernel_rfl) (fun _ _ _ h => h) (fun V hV => by go_simp; try with_reducible rfl) ?_
              try simp only [Act.put, sqA, sqB, sqC, sqD, sqE, sqF]
              refine tk 12 (by assumption) rfl (by kernel_rfl) (fun _ _ _ h => h) (fun V hV => by go_simp; try with_reducible rfl) ?_
              try simp only [Act.put, sqA, sqB, sqC, sqD, sqE, sqF]
              refine tk 13 (by assumption) rfl (by kernel_rfl) (fun _ _ _ h => h) (fun V hV => by go_simp; try with_reducible rfl) ?_
              try simp only [Act.put, sqA, sqB, sqC, sqD, sqE, sqF]
              refine tk 14 (by assumption) rfl (by kernel_rfl) (fun _ _ _ h => h) (fun V hV => by obtain ⟨hx1, hx2⟩ := hV; go_simp; try with_reducible rfl) ?_
              try simp only [Act.put, sqA, sqB, sqC, sqD, sqE, sqF]
              refine tk 15 (by assumption) rfl (by kernel_rfl) (fun _ _ _ h => h) (fun V hV => by go_simp; try with_reducible rfl) ?_
              try simp only [Act.put, sqA, sqB, sqC, sqD, sqE, sqF]
              refine wpAnyH_ready (rs := [11, 16]) (by kernel_rfl) (by simp) ?_
              refine AllReadyH.cons (o := _) rfl (fun K hK => ?_) (AllReadyH.cons (o := _) rfl (fun K hK => ?_) (AllReadyH.nil))
              · have hx := HA0.out _ (HV8.out.keep B0.out)
                go_simp
                refine hK.out _ _ (HX8.out _ (B0.out.block _ HTX.out.1) (B0.out.block _ HTX.out.2)) (fun hH => ?_)
                clear hK K hx
                try simp only [Act.put, sqA, sqB, sqC, sqD, sqE, sqF]
                refine wpAnyH_ready (rs := [16]) (by kernel_rfl) (by simp) ?_
                refine AllReadyH.cons (o := _) rfl (fun K hK => ?_) AllReadyH.nil
                go_simp
                obtain ⟨V1, hV1⟩ : ∃ V1, V1 = V0.alloc (.cells #[.int .i64 (pb : Int), .float .f64 (qw q)] 80) := ⟨_, rfl⟩
                rw [← hV1]
                have B1 : Hid (Below W8.heap.size W8 V1) := Lib.hid (by rw [hV1]; exact gNx B0.out (gAl _ _))
                have HV1 : Hid (V1.heap[V0.heap.size]? = some (.cells (rdC (pb, q)).toArray 80 (0, 0))) := Lib.hid (by rw [hV1]; exact heap_alloc_new V0 _)
                clear hV1
                refine hK.out _ _ (HX8.out _ (B1.out.block _ HTX.out.1) (B1.out.block _ HTX.out.2)) (fun hH => ?_)
                clear hK K
                try simp only [Act.put, sqA, sqB, sqC, sqD, sqE, sqF]
                refine wpAnyH_ready (rs := [17]) (by kernel_rfl) (by simp) ?_
                refine AllReadyH.cons (o := _) rfl (fun K hK => ?_) AllReadyH.nil
                obtain ⟨v, v2, W2, n, a, c, hv, hvs, hrun, hout, hnet, hwr2, ⟨a2, c2, hv2⟩, hwr3⟩ := (HV8.out.keep B1.out).add (u := pa) (by rw [LENX.out]; exact HU8.out.1) (pb, q) (Nat.le_trans HU8.out.2.2 (Nat.le_trans HSZ.out B1.out.size)) HV1.out (by have := HDX.out pa; omega)
                have hcell := HA0.out _ (HV8.out.keep B1.out)
                obtain ⟨rfl⟩ : v = .slice a0 n0 c0 := netb_val (HV8.out.keep B1.out) hv hcell
                subst hv2
                have HNET := Lib.hid hnet
                have HW2 := Lib.hid hwr2
                have HW3 := Lib.hid hwr3
                have HOUT := Lib.hid (hout.trans (HV8.out.keep B1.out).outer)
                have HVS := Lib.hid hv
                refine step_append_r rfl _ _ 78 78 rfl (.slice a0 n0 c0) (.slice (some ⟨V0.heap.size, 0, none⟩) 1 1) (by simp [Act.eval, Act.put]) (by simp [Act.eval, Act.put]) (hrun _) ?_
                refine hK.out _ _ (HX8.out _ (wr2_at HW3.out B1.out HTT.out.1 (by decide) (by decide)) (wr2_at HW3.out B1.out HTT.out.2 (by decide) (by decide))) (fun hH => ?_)
                clear hK K hv hvs hrun hout hnet hwr2 hwr3 hcell
                try simp only [Act.put, sqA, sqB, sqC, sqD, sqE, sqF]
                refine tk 18 (by assumption) rfl (by kernel_rfl) (fun _ _ _ h => h) (fun V hV => by go_simp; try with_reducible rfl) ?_
                try simp only [Act.put, sqA, sqB, sqC, sqD, sqE, sqF]
                refine wpAnyH_ready (rs := [19]) (by kernel_rfl) (by simp) ?_
                refine AllReadyH.cons (o := _) rfl (fun K hK => ?_) AllReadyH.nil
                have hoc := row_cell_of HOUT.out HVS.out
                have hof := frozen_of_row W2 rb pa _ _ HOUT.out
                go_simp
                refine hK.out _ _ (HX8.out _ (wr2_at HW2.out B1.out HTT.out.1 (by decide) (by decide)) (wr2_at HW2.out B1.out HTT.out.2 (by decide) (by decide))) (fun hH => ?_)
                clear hK K hoc hof
                try simp only [Act.put, sqA, sqB, sqC, sqD, sqE, sqF]
                refine wpAnyH_done (by kernel_rfl) ?_ _
                go_wp2_with fail
                go_meet
                exact ⟨_, HNET.out, (Wr2.of_below B1.out).trans HW2.out⟩
              · go_simp
                obtain ⟨V1, hV1⟩ : ∃ V1, V1 = V0.alloc (.cells #[.int .i64 (pb : Int), .float .f64 (qw q)] 80) := ⟨_, rfl⟩
                rw [← hV1]
                have B1 : Hid (Below W8.heap.size W8 V1) := Lib.hid (by rw [hV1]; exact gNx B0.out (gAl _ _))
                have HV1 : Hid (V1.heap[V0.heap.size]? = some (.cells (rdC (pb, q)).toArray 80 (0, 0))) := Lib.hid (by rw [hV1]; exact heap_alloc_new V0 _)
                clear hV1
                refine hK.out _ _ (HX8.out _ (B1.out.block _ HTX.out.1) (B1.out.block _ HTX.out.2)) (fun hH => ?_)
                clear hK K
                try simp only [Act.put, sqA, sqB, sqC, sqD, sqE, sqF]
                refine wpAnyH_ready (rs := [11]) (by kernel_rfl) (by simp) ?_
                refine AllReadyH.cons (o := _) rfl (fun K hK => ?_) AllReadyH.nil
                have hx := HA0.out _ (HV8.out.keep B1.out)
                go_simp
                refine hK.out _ _ (HX8.out _ (B1.out.block _ HTX.out.1) (B1.out.block _ HTX.out.2)) (fun hH => ?_)
                clear hK K hx
                try simp only [Act.put, sqA, sqB, sqC, sqD, sqE, sqF]
                refine wpAnyH_ready (rs := [17]) (by kernel_rfl) (by simp) ?_
                refine AllReadyH.cons (o := _) rfl (fun K hK => ?_) AllReadyH.nil
                obtain ⟨v, v2, W2, n, a, c, hv, hvs, hrun, hout, hnet, hwr2, ⟨a2, c2, hv2⟩, hwr3⟩ := (HV8.out.keep B1.out).add (u := pa) (by rw [LENX.out]; exact HU8.out.1) (pb, q) (Nat.le_trans HU8.out.2.2 (Nat.le_trans HSZ.out B1.out.size)) HV1.out (by have := HDX.out pa; omega)
                have hcell := HA0.out _ (HV8.out.keep B1.out)
                obtain ⟨rfl⟩ : v = .slice a0 n0 c0 := netb_val (HV8.out.keep B1.out) hv hcell
                subst hv2
                have HNET := Lib.hid hnet
                have HW2 := Lib.hid hwr2
                have HW3 := Lib.hid hwr3
                have HOUT := Lib.hid (hout.trans (HV8.out.keep B1.out).outer)
                have HVS := Lib.hid hv
                refine step_append_r rfl _ _ 78 78 rfl (.slice a0 n0 c0) (.slice (some ⟨V0.heap.size, 0, none⟩) 1 1) (by simp [Act.eval, Act.put]) (by simp [Act.eval, Act.put]) (hrun _) ?_
                refine hK.out _ _ (HX8.out _ (wr2_at HW3.out B1.out HTT.out.1 (by decide) (by decide)) (wr2_at HW3.out B1.out HTT.out.2 (by decide) (by decide))) (fun hH => ?_)
                clear hK K hv hvs hrun hout hnet hwr2 hwr3 hcell
                try simp only [Act.put, sqA, sqB, sqC, sqD, sqE, sqF]
                refine tk 18 (by assumption) rfl (by kernel_rfl) (fun _ _ _ h => h) (fun V hV => by go_simp; try with_reducible rfl) ?_
                try simp only [Act.put, sqA, sqB, sqC, sqD, sqE, sqF]
                refine wpAnyH_ready (rs := [19]) (by kernel_rfl) (by simp) ?_
                refine AllReadyH.cons (o := _) rfl (fun K hK => ?_) AllReadyH.nil
                have hoc := row_cell_of HOUT.out HVS.out
                have hof := frozen_of_row W2 rb pa _ _ HOUT.out
                go_simp
                refine hK.out _ _ (HX8.out _ (wr2_at HW2.out B1.out HTT.out.1 (by decide) (by decide)) (wr2_at HW2.out B1.out HTT.out.2 (by decide) (by decide))) (fun hH => ?_)
                clear hK K hoc hof
                try simp only [Act.put, sqA, sqB, sqC, sqD, sqE, sqF]
                refine wpAnyH_done (by kernel_rfl) ?_ _
                go_wp2_with fail
                go_meet
                exact ⟨_, HNET.out, (Wr2.of_below B1.out).trans HW2.out⟩
            case rest =>
              obtain ⟨vs2, hn2, hw2⟩ := hcut
              clear HDX HTX HSZ LENX HTT
              have HV9 : Hid (NetB wc W3.heap.size rb vs2 (addR (netL H.nodes (H.links.take k)) pa (pb, q))) := Lib.hid hn2
              have HR9 : Hid (Wr2 W3.heap.size 80 78 wo wc) := Lib.hid (HR8.out.trans hw2)
              have HTT : Hid ((∃ cs, wc.heap[sb]? = some (.cells cs 72 (0, 0))) ∧ (∃ cs, wc.heap[ll]? = some (.cells cs 62 (0, 0)))) := Lib.hid (by obtain ⟨⟨cs, h1⟩, ⟨ds, h2⟩⟩ := HT8.out; exact ⟨⟨cs, hw2.kept h1 (by decide) (by decide)⟩, ⟨ds, hw2.kept h2 (by decide) (by decide)⟩⟩)
              have HX9 : Hid (∀ V, V.heap[sb]? = wc.heap[sb]? → V.heap[ll]? = wc.heap[ll]? → SiS V sb ll H.nodes.length rb q) := Lib.hid (fun V h1 h2 => by
                obtain ⟨⟨cs, g1⟩, ⟨ds, g2⟩⟩ := HT8.out
                exact HX8.out V (h1.trans ((hw2.kept g1 (by decide) (by decide)).trans g1.symm)) (h2.trans ((hw2.kept g2 (by decide) (by decide)).trans g2.symm)))
              have LENX : Hid ((addR (netL H.nodes (H.links.take k)) pa (pb, q)).length = H.nodes.length) := Lib.hid (by rw [addR_len]; exact netL_len _ _)
              have HTX : Hid (sb < wc.heap.size ∧ ll < wc.heap.size) := Lib.hid ⟨by obtain ⟨cs, h⟩ := HTT.out.1; exact (Array.getElem?_eq_some_iff.1 h).1, by obtain ⟨cs, h⟩ := HTT.out.2; exact (Array.getElem?_eq_some_iff.1 h).1⟩
              have HSZ : Hid (W8.heap.size ≤ wc.heap.size) := Lib.hid hw2.size
              have HDX : Hid (∀ u, ((addR (netL H.nodes (H.links.take k)) pa (pb, q)).getD u []).length < 8194) := Lib.hid (fun u => by
                have h1 := HDG.out u
                have h2 := HDG.out pa
                rw [addR_at _ (by rw [netL_len]; exact HU8.out.1)]
                split
                · rw [List.length_append]; simp only [List.length_singleton]; omega
                · omega)
              clear hn2 hw2
              go_upto_region 15 with (fail)
              refine wp_region_held_drew (S := fun V => SiS V sb ll H.nodes.length rb q) (by kernel_rfl) (HX9.out _ rfl rfl) (fun hH => ?_)
              have B0 : Hid (Below wc.heap.size wc wc.drew) := Lib.hid (Below.drew (Below.refl _ _))
              generalize wc.drew = V0 at *
              have hs0 : SiS V0 sb ll H.nodes.length rb q := HX9.out V0 (B0.out.block _ HTX.out.1) (B0.out.block _ HTX.out.2)
              obtain ⟨a0, n0, c0, HA0⟩ : ∃ a0 n0 c0, Hid (∀ V, NetB V W3.heap.size rb vs2 (addR (netL H.nodes (H.links.take k)) pa (pb, q)) → V.cell? ⟨rb, pb, none⟩ = some (.slice a0 n0 c0)) := by
                obtain ⟨a0, n0, c0, h⟩ := netb_cell HV9.out (u := pb) (by rw [LENX.out]; exact HU8.out.2.1)
                exact ⟨a0, n0, c0, Lib.hid h⟩
              refine tk 0 (by assumption) rfl (by kernel_rfl) (fun _ _ _ h => h) (fun V hV => by go_simp; try with_reducible rfl) ?_
              try simp only [Act.put, sqA, sqB, sqC, sqD, sqE, sqF]
              refine tk 1 (by assumption) rfl (by kernel_rfl) (fun _ _ _ h => h) (fun V hV => by go_simp; try with_reducible rfl) ?_
              try simp only [Act.put, sqA, sqB, sqC, sqD, sqE, sqF]
              refine tk 2 (by assumption) rfl (by kernel_rfl) (fun _ _ _ h => h) (fun V hV => by go_simp; try with_reducible rfl) ?_
              try simp only [Act.put, sqA, sqB, sqC, sqD, sqE, sqF]
              refine tk 3 (by assumption) rfl (by kernel_rfl) (fun _ _ _ h => h) (fun V hV => by obtain ⟨hx1, hx2⟩ := hV; go_simp; try with_reducible rfl) ?_
              try simp only [Act.put, sqA, sqB, sqC, sqD, sqE, sqF]
              refine tk 4 (by assumption) rfl (by kernel_rfl) (fun _ _ _ h => h) (fun V hV => by go_simp; try with_reducible rfl) ?_
              try simp only [Act.put, sqA, sqB, sqC, sqD, sqE, sqF]
              refine tk 5 (by assumption) rfl (by kernel_rfl) (fun _ _ _ h => h) (fun V hV => by go_simp; try with_reducible rfl) ?_
              try simp only [Act.put, sqA, sqB, sqC, sqD, sqE, sqF]
              refine tk 6 (by assumption) rfl (by kernel_rfl) (fun _ _ _ h => h) (fun V hV => by go_simp; try with_reducible rfl) ?_
              try simp only [Act.put, sqA, sqB, sqC, sqD, sqE, sqF]
              refine tk 7 (by assumption) rfl (by kernel_rfl) (fun _ _ _ h => h) (fun V hV => by go_simp; try with_reducible rfl) ?_
              try simp only [Act.put, sqA, sqB, sqC, sqD, sqE, sqF]
              refine tk 8 (by assumption) rfl (by kernel_rfl) (fun _ _ _ h => h) (fun V hV => by obtain ⟨hx1, hx2⟩ := hV; go_simp; try with_reducible rfl) ?_
              try simp only [Act.put, sqA, sqB, sqC, sqD, sqE, sqF]
              refine tk 9 (by assumption) rfl (by kernel_rfl) (fun _ _ _ h => h) (fun V hV => by go_simp; try with_reducible rfl) ?_
              try simp only [Act.put, sqA, sqB, sqC, sqD, sqE, sqF]
              refine tk 10 (by assumption) rfl (by kernel_rfl) (fun _ _ _ h => h) (fun V hV => by go_simp; try with_reducible rfl) ?_
              try simp only [Act.put, sqA, sqB, sqC, sqD, sqE, sqF]
              refine tk 12 (by assumption) rfl (by kernel_rfl) (fun _ _ _ h => h) (fun V hV => by go_simp; try with_reducible rfl) ?_
              try simp only [Act.put, sqA, sqB, sqC, sqD, sqE, sqF]
              refine tk 13 (by assumption) rfl (by kernel_rfl) (fun _ _ _ h => h) (fun V hV => by go_simp; try with_reducible rfl) ?_
              try simp only [Act.put, sqA, sqB, sqC, sqD, sqE, sqF]
              refine tk 14 (by assumption) rfl (by kernel_rfl) (fun _ _ _ h => h) (fun V hV => by obtain ⟨hx1, hx2⟩ := hV; go_simp; try with_reducible rfl) ?_
              try simp only [Act.put, sqA, sqB, sqC, sqD, sqE, sqF]
              refine tk 15 (by assumption) rfl (by kernel_rfl) (fun _ _ _ h => h) (fun V hV => by go_simp; try with_reducible rfl) ?_
              try simp only [Act.put, sqA, sqB, sqC, sqD, sqE, sqF]
              refine wpAnyH_ready (rs := [11, 16]) (by kernel_rfl) (by simp) ?_
              refine AllReadyH.cons (o := _) rfl (fun K hK => ?_) (AllReadyH.cons (o := _) rfl (fun K hK => ?_) (AllReadyH.nil))
              · have hx := HA0.out _ (HV9.out.keep B0.out)
                go_simp
                refine hK.out _ _ (HX9.out _ (B0.out.block _ HTX.out.1) (B0.out.block _ HTX.out.2)) (fun hH => ?_)
                clear hK K hx
                try simp only [Act.put, sqA, sqB, sqC, sqD, sqE, sqF]
                refine wpAnyH_ready (rs := [16]) (by kernel_rfl) (by simp) ?_
                refine AllReadyH.cons (o := _) rfl (fun K hK => ?_) AllReadyH.nil
                go_simp
                obtain ⟨V1, hV1⟩ : ∃ V1, V1 = V0.alloc (.cells #[.int .i64 (pa : Int), .float .f64 (qw q)] 80) := ⟨_, rfl⟩
                rw [← hV1]
                have B1 : Hid (Below wc.heap.size wc V1) := Lib.hid (by rw [hV1]; exact gNx B0.out (gAl _ _))
                have HV1 : Hid (V1.heap[V0.heap.size]? = some (.cells (rdC (pa, q)).toArray 80 (0, 0))) := Lib.hid (by rw [hV1]; exact heap_alloc_new V0 _)
                clear hV1
                refine hK.out _ _ (HX9.out _ (B1.out.block _ HTX.out.1) (B1.out.block _ HTX.out.2)) (fun hH => ?_)
                clear hK K
                try simp only [Act.put, sqA, sqB, sqC, sqD, sqE, sqF]
                refine wpAnyH_ready (rs := [17]) (by kernel_rfl) (by simp) ?_
                refine AllReadyH.cons (o := _) rfl (fun K hK => ?_) AllReadyH.nil
                obtain ⟨v, v2, W2, n, a, c, hv, hvs, hrun, hout, hnet, hwr2, ⟨a2, c2, hv2⟩, hwr3⟩ := (HV9.out.keep B1.out).add (u := pb) (by rw [LENX.out]; exact HU8.out.2.1) (pa, q) (Nat.le_trans HU8.out.2.2 (Nat.le_trans HSZ.out B1.out.size)) HV1.out (by have := HDX.out pb; omega)
                have hcell := HA0.out _ (HV9.out.keep B1.out)
                obtain ⟨rfl⟩ : v = .slice a0 n0 c0 := netb_val (HV9.out.keep B1.out) hv hcell
                subst hv2
                have HNET := Lib.hid hnet
                have HW2 := Lib.hid hwr2
                have HW3 := Lib.hid hwr3
                have HOUT := Lib.hid (hout.trans (HV9.out.keep B1.out).outer)
                have HVS := Lib.hid hv
                refine step_append_r rfl _ _ 78 78 rfl (.slice a0 n0 c0) (.slice (some ⟨V0.heap.size, 0, none⟩) 1 1) (by simp [Act.eval, Act.put]) (by simp [Act.eval, Act.put]) (hrun _) ?_
                refine hK.out _ _ (HX9.out _ (wr2_at HW3.out B1.out HTT.out.1 (by decide) (by decide)) (wr2_at HW3.out B1.out HTT.out.2 (by decide) (by decide))) (fun hH => ?_)
                clear hK K hv hvs hrun hout hnet hwr2 hwr3 hcell
                try simp only [Act.put, sqA, sqB, sqC, sqD, sqE, sqF]
                refine tk 18 (by assumption) rfl (by kernel_rfl) (fun _ _ _ h => h) (fun V hV => by go_simp; try with_reducible rfl) ?_
                try simp only [Act.put, sqA, sqB, sqC, sqD, sqE, sqF]
                refine wpAnyH_ready (rs := [19]) (by kernel_rfl) (by simp) ?_
                refine AllReadyH.cons (o := _) rfl (fun K hK => ?_) AllReadyH.nil
                have hoc := row_cell_of HOUT.out HVS.out
                have hof := frozen_of_row W2 rb pb _ _ HOUT.out
                go_simp
                refine hK.out _ _ (HX9.out _ (wr2_at HW2.out B1.out HTT.out.1 (by decide) (by decide)) (wr2_at HW2.out B1.out HTT.out.2 (by decide) (by decide))) (fun hH => ?_)
                clear hK K hoc hof
                try simp only [Act.put, sqA, sqB, sqC, sqD, sqE, sqF]
                refine wpAnyH_done (by kernel_rfl) ?_ _
                go_wp2_with fail
                refine ⟨⟨k + 1, _, congrArg (Value.int .i64) HK1.out.2.2.2, HK1.out.1, by rw [← HSN.out]; exact HNET.out, (HR9.out.trans (Wr2.of_below B1.out)).trans HW2.out⟩, ?_⟩
                show H.links.length - ((k : Int) + 1).toNat < H.links.length - (k : Int).toNat
                rw [HK1.out.2.2.1]
                exact HK1.out.2.1
              · go_simp
                obtain ⟨V1, hV1⟩ : ∃ V1, V1 = V0.alloc (.cells #[.int .i64 (pa : Int), .float .f64 (qw q)] 80) := ⟨_, rfl⟩
                rw [← hV1]
                have B1 : Hid (Below wc.heap.size wc V1) := Lib.hid (by rw [hV1]; exact gNx B0.out (gAl _ _))
                have HV1 : Hid (V1.heap[V0.heap.size]? = some (.cells (rdC (pa, q)).toArray 80 (0, 0))) := Lib.hid (by rw [hV1]; exact heap_alloc_new V0 _)
                clear hV1
                refine hK.out _ _ (HX9.out _ (B1.out.block _ HTX.out.1) (B1.out.block _ HTX.out.2)) (fun hH => ?_)
                clear hK K
                try simp only [Act.put, sqA, sqB, sqC, sqD, sqE, sqF]
                refine wpAnyH_ready (rs := [11]) (by kernel_rfl) (by simp) ?_
                refine AllReadyH.cons (o := _) rfl (fun K hK => ?_) AllReadyH.nil
                have hx := HA0.out _ (HV9.out.keep B1.out)
                go_simp
                refine hK.out _ _ (HX9.out _ (B1.out.block _ HTX.out.1) (B1.out.block _ HTX.out.2)) (fun hH => ?_)
                clear hK K hx
                try simp only [Act.put, sqA, sqB, sqC, sqD, sqE, sqF]
                refine wpAnyH_ready (rs := [17]) (by kernel_rfl) (by simp) ?_
                refine AllReadyH.cons (o := _) rfl (fun K hK => ?_) AllReadyH.nil
                obtain ⟨v, v2, W2, n, a, c, hv, hvs, hrun, hout, hnet, hwr2, ⟨a2, c2, hv2⟩, hwr3⟩ := (HV9.out.keep B1.out).add (u := pb) (by rw [LENX.out]; exact HU8.out.2.1) (pa, q) (Nat.le_trans HU8.out.2.2 (Nat.le_trans HSZ.out B1.out.size)) HV1.out (by have := HDX.out pb; omega)
                have hcell := HA0.out _ (HV9.out.keep B1.out)
                obtain ⟨rfl⟩ : v = .slice a0 n0 c0 := netb_val (HV9.out.keep B1.out) hv hcell
                subst hv2
                have HNET := Lib.hid hnet
                have HW2 := Lib.hid hwr2
                have HW3 := Lib.hid hwr3
                have HOUT := Lib.hid (hout.trans (HV9.out.keep B1.out).outer)
                have HVS := Lib.hid hv
                refine step_append_r rfl _ _ 78 78 rfl (.slice a0 n0 c0) (.slice (some ⟨V0.heap.size, 0, none⟩) 1 1) (by simp [Act.eval, Act.put]) (by simp [Act.eval, Act.put]) (hrun _) ?_
                refine hK.out _ _ (HX9.out _ (wr2_at HW3.out B1.out HTT.out.1 (by decide) (by decide)) (wr2_at HW3.out B1.out HTT.out.2 (by decide) (by decide))) (fun hH => ?_)
                clear hK K hv hvs hrun hout hnet hwr2 hwr3 hcell
                try simp only [Act.put, sqA, sqB, sqC, sqD, sqE, sqF]
                refine tk 18 (by assumption) rfl (by kernel_rfl) (fun _ _ _ h => h) (fun V hV => by go_simp; try with_reducible rfl) ?_
                try simp only [Act.put, sqA, sqB, sqC, sqD, sqE, sqF]
                refine wpAnyH_ready (rs := [19]) (by kernel_rfl) (by simp) ?_
                refine AllReadyH.cons (o := _) rfl (fun K hK => ?_) AllReadyH.nil
                have hoc := row_cell_of HOUT.out HVS.out
                have hof := frozen_of_row W2 rb pb _ _ HOUT.out
                go_simp
                refine hK.out _ _ (HX9.out _ (wr2_at HW2.out B1.out HTT.out.1 (by decide) (by decide)) (wr2_at HW2.out B1.out HTT.out.2 (by decide) (by decide))) (fun hH => ?_)
                clear hK K hoc hof
                try simp only [Act.put, sqA, sqB, sqC, sqD, sqE, sqF]
                refine wpAnyH_done (by kernel_rfl) ?_ _
                go_wp2_with fail
                refine ⟨⟨k + 1, _, congrArg (Value.int .i64) HK1.out.2.2.2, HK1.out.1, by rw [← HSN.out]; exact HNET.out, (HR9.out.trans (Wr2.of_below B1.out)).trans HW2.out⟩, ?_⟩
                show H.links.length - ((k : Int) + 1).toNat < H.links.length - (k : Int).toNat
                rw [HK1.out.2.2.1]
                exact HK1.out.2.1
          · have hnk : ¬ (k : Int) < (H.links.length : Int) := by omega
            have htk : H.links.take k = H.links := List.take_of_length_le (by omega)
            rw [htk] at HNW
            clear hlt htk
            go_wp2_with fail
            refine bodyPost_ret (v := .tuple #[.pointer (some ⟨sb, 0, none⟩), .int .i64 0]) (by simp [results, Tryz.results19, go_sem]) rfl ?_
            have hdb2 := HWR.out.kept HDH.out (by decide) (by decide)
            have hnb := HNB.out
            have h3 := HB3.out.size
            refine Or.inr (Or.inr ⟨HZ.out, HL.out, gNx HB3.out HBE.out, sb, db, W3.heap.size, an, cn, al, cl, .slice (some ⟨rb, 0, none⟩) H.nodes.length H.nodes.length, rfl, by omega, by omega, ?_⟩)
            rw [← HHE.out]
            refine ⟨⟨HZ2.out, HWL.out, HLL.out, HL.out, HMX.out⟩, HWR.out.kept HNH.out (by decide) (by decide), HN3.out.kept (fun i hi => HBE.out.block i hi) (Nat.le_refl _), HK3.out.kept (fun i hi => HBE.out.block i hi) (Nat.le_refl _), ⟨hnb.1, hnb.2.2.1, hnb.2.2.2⟩, ?_, ?_⟩
            · have hh := HNW.out.hps hdb2 H.nodes.length
              rw [netL_len] at hh
              rw [HLL.out]; exact hh
            · exact ⟨List.replicate H.nodes.length (.slice none 0 0), by rw [hdb2]; simp, by simp, fun a ha => Or.inl (by simp)⟩
end Go.Proofs.YtjlfpjjfldbknaaGreat
