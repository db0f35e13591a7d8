/- Graphs: Live. -/
import Derived.Test.YtjlfpjjfldbknaaGreatOwB
import Derived.Test.YtjlfpjjfldbknaaGreatNgT0
import Derived.Test.YtjlfpjjfldbknaaGreatNhA
import Derived.Test.YtjlfpjjfldbknaaGreatNgY
namespace Go.Proofs.YtjlfpjjfldbknaaGreat
open Go.RowKit Go.Lib Go.Fq Go.Iq Go.Nq Go.Ow
set_option linter.unusedVariables false
set_option linter.unusedSimpArgs false
set_option maxRecDepth 100000

theorem ndRow_snoc' (l : List Nd) (x : Nd) : ndRow (l ++ [x]) = ndRow l ++ ndC x := by simp [ndRow]
theorem GrAt.addN {V : World} {base bg : Nat} {vn vl : Value} {G : Gr} (h : GrAt V base bg vn vl G) (x : Nd) {vb : Nat} (hvb : V.heap[vb]? = some (.cells (ndC x).toArray 60 (0, 0))) (hfit : (G.nodes.length + 1) * 16 ≤ 140737488355328) :
    ∃ a c V', (∀ ty, (Builtin.append_ #[22, 22] ty #[vn, .slice (some ⟨vb, 0, none⟩) 1 1]).run Tryz.prog V = .ok (.slice a (G.nodes.length + 1) c) V') ∧ V'.heap[bg]? = some (.cells #[vn, vl] 25 (0, 0)) ∧
      GrAt (V'.setCell ⟨bg, 0, none⟩ (.slice a (G.nodes.length + 1) c)) base bg (.slice a (G.nodes.length + 1) c) vl { G with nodes := G.nodes ++ [x] } ∧ Below base V V' := by
  have hb : base ≤ V.heap.size := Nat.le_of_lt (Nat.lt_of_le_of_lt h.hb h.lt)
  obtain ⟨v', V', hrun, ho, hw⟩ := own_append (P := Tryz.prog) Tryz.underlying22 ndInfo rfl h.nodes hb hvb rfl (ndC_one x) hfit (by omega)
  obtain ⟨a, c, rfl⟩ := ho.slice
  refine ⟨a, c, V', hrun, hw.kept h.gb (by decide), h.putN hw (by rw [ndRow_snoc', List.length_append]; exact ho), hw.below hb⟩
theorem lkRow_snoc' (l : List Lk) (x : Lk) : lkRow (l ++ [x]) = lkRow l ++ lkC x := by simp [lkRow]
theorem GrAt.addL {V : World} {base bg : Nat} {vn vl : Value} {G : Gr} (h : GrAt V base bg vn vl G) (x : Lk) {vb : Nat} (hvb : V.heap[vb]? = some (.cells (lkC x).toArray 62 (0, 0))) (hfit : (G.links.length + 1) * 32 ≤ 140737488355328) (hx : x.w < 2 ^ 64) :
    ∃ a c V', (∀ ty, (Builtin.append_ #[23, 23] ty #[vl, .slice (some ⟨vb, 0, none⟩) 1 1]).run Tryz.prog V = .ok (.slice a (G.links.length + 1) c) V') ∧ V'.heap[bg]? = some (.cells #[vn, vl] 25 (0, 0)) ∧
      GrAt (V'.setCell ⟨bg, 1, none⟩ (.slice a (G.links.length + 1) c)) base bg vn (.slice a (G.links.length + 1) c) { G with links := G.links ++ [x] } ∧ Below base V V' := by
  have hb : base ≤ V.heap.size := Nat.le_of_lt (Nat.lt_of_le_of_lt h.hb h.lt)
  obtain ⟨v', V', hrun, ho, hw⟩ := own_append (P := Tryz.prog) Tryz.underlying23 lkInfo rfl h.links hb hvb rfl (lkC_one x) hfit (by omega)
  obtain ⟨a, c, rfl⟩ := ho.slice
  refine ⟨a, c, V', hrun, hw.kept h.gb (by decide), h.putL hw (by rw [lkRow_snoc', List.length_append]; exact ho) (fun y hy => by rcases List.mem_append.1 hy with e | e; exact h.wts y e; rw [List.mem_singleton] at e; rw [e]; exact hx), hw.below hb⟩
/-- What Live and its kind tell: a graph of the call's own, and a number. -/
def LiveEnds (w : World) (G : Gr) (n : Int) (e : Ending) (w' : World) : Prop := ∃ vn vl, e = .returned (.tuple #[.agg #[vn, vl], .int .i64 n]) ∧ GrV w' w.heap.size vn vl G ∧ Below w.heap.size w w'
set_option maxHeartbeats 8000000 in
theorem gLive_any (G : Gr) (na : Option Addr) (nc : Nat) (la : Option Addr) (lc : Nat) (w : World) (hin : GrIn w G na la) :
    Calls Tryz.prog 30 #[.agg #[.slice na G.nodes.length nc, .slice la G.links.length lc]] w fun e w' => LiveEnds w (liveA G) (checkG G) e w' := by
  have hst := g_storeL
  obtain ⟨W1, hW1⟩ : ∃ W1, W1 = w.alloc (.cells #[.slice na G.nodes.length nc, .slice la G.links.length lc] 25) := ⟨_, rfl⟩
  obtain ⟨W2, hW2⟩ : ∃ W2, W2 = W1.alloc (.cells #[.slice none 0 0, .slice none 0 0] 25) := ⟨_, rfl⟩
  have b1 : Below w.heap.size w W1 := by rw [hW1]; exact gAl _ _
  have b2 : Below W1.heap.size W1 W2 := by rw [hW2]; exact gAl _ _
  have s1 : W1.heap.size = w.heap.size + 1 := by rw [hW1]; simp
  have s2 : W2.heap.size = W1.heap.size + 1 := by rw [hW2]; simp
  have r1 : W1.heap[w.heap.size]? = some (.cells #[.slice na G.nodes.length nc, .slice la G.links.length lc] 25 (0, 0)) := by rw [hW1]; exact heap_alloc_new w _
  have r2 : W2.heap[W1.heap.size]? = some (.cells #[.slice none 0 0, .slice none 0 0] 25 (0, 0)) := by rw [hW2]; exact heap_alloc_new W1 _
  have hb2 : Below w.heap.size w W2 := gNx b1 b2
  have q1 : W2.heap[w.heap.size]? = some (.cells #[.slice na G.nodes.length nc, .slice la G.links.length lc] 25 (0, 0)) := (b2.block _ (by omega)).trans r1
  obtain ⟨br, hbr⟩ : ∃ br, br = W1.heap.size := ⟨_, rfl⟩
  have HBR : Hid (br < W2.heap.size ∧ w.heap.size ≤ br ∧ br ≠ w.heap.size ∧ w.heap.size ≤ W2.heap.size) := Lib.hid (by omega)
  have HKG : Hid (∀ V, Below W2.heap.size W2 V → V.cell? ⟨w.heap.size, 0, none⟩ = some (.slice na G.nodes.length nc) ∧ V.cell? ⟨w.heap.size, 1, none⟩ = some (.slice la G.links.length lc)) := Lib.hid (fun V hV => by
    have := (hV.block w.heap.size (by omega)).trans q1
    exact ⟨by rw [cell_of_row V _ 0 _ _ (0, 0) this]; rfl, by rw [cell_of_row V _ 1 _ _ (0, 0) this]; rfl⟩)
  have HRS : Hid (∀ V, Below W2.heap.size W2 V → V.heap[br]? = some (.cells #[.slice none 0 0, .slice none 0 0] 25 (0, 0))) := Lib.hid (fun V hV => by rw [hbr]; exact (hV.block _ (by omega)).trans r2)
  have HWB : Hid (∀ V, Below W2.heap.size W2 V → Below w.heap.size w V) := Lib.hid (fun V hV => gNx hb2 hV)
  have HN : Hid (∀ V, Below W2.heap.size W2 V → NodesIn V V.heap.size G.nodes na) := Lib.hid (fun V hV => hin.nodes.kept (fun i hi => (gNx hb2 hV).block i hi) (gNx hb2 hV).size)
  have HL : Hid (∀ V, Below W2.heap.size W2 V → LinksIn V V.heap.size G.links la) := Lib.hid (fun V hV => hin.links.kept (fun i hi => (gNx hb2 hV).block i hi) (gNx hb2 hV).size)
  have HG2 : Hid (∀ V, Below W2.heap.size W2 V → GrIn V G na la) := Lib.hid (fun V hV => hin.below (gNx hb2 hV))
  have HQ := Lib.hid hin.wts
  have HSZ : Hid (G.nodes.length * 16 ≤ 140737488351232 ∧ G.links.length * 32 ≤ 140737488351232) := Lib.hid ⟨hin.n1, hin.l1⟩
  clear hin b1 b2 r1 r2 q1 hb2

  by_cases hz : checkG G = 0
  case neg =>
    have HA := Lib.hid (liveA_no hz)
    obtain ⟨ce, hce⟩ : ∃ ce, ce = checkG G := ⟨_, rfl⟩
    rw [← hce] at hz ⊢
    rw [HA.out]
    have HCE := Lib.hid hce
    have hz2 : (ce != 0) = true := by simpa using hz
    clear hz hce HA
    go_enter Tryz.func30, Tryz.ntmps30
    go_upto_region 1 with (fail)
    rw [← hW1, ← hW2, ← s1, ← hbr]
    obtain ⟨g0, g1⟩ := HKG.out W2 (Below.refl _ _)
    clear hW1 hW2 s1 s2 hbr
    go_wp2_with fail
    refine (gCheck_any G na la nc lc W2 (HG2.out W2 (Below.refl _ _)).nodes (HG2.out W2 (Below.refl _ _)).links HQ.out (by have := HSZ.out; omega) (by have := HSZ.out; omega)).mono ?_
    rintro e V1 ⟨rfl, hb⟩
    have B1 := Lib.hid hb
    have hres := HRS.out V1 hb
    have x0 : V1.cell? ⟨br, 0, none⟩ = some (.slice none 0 0) := by rw [cell_of_row V1 _ 0 _ _ (0, 0) hres]; rfl
    have x1 : V1.cell? ⟨br, 1, none⟩ = some (.slice none 0 0) := by rw [cell_of_row V1 _ 1 _ _ (0, 0) hres]; rfl
    have x2 := frozen_of_row V1 br 0 _ _ hres
    have x3 := frozen_of_row V1 br 1 _ _ hres
    have HRES := Lib.hid hres
    clear hb hres g0 g1
    rw [← HCE.out]
    clear HCE
    go_wp2_with fail
    have hq1 := heap_setCell_same V1 br 0 _ _ (.slice none 0 0) HRES.out
    have hq2 := heap_setCell_same _ br 1 _ _ (.slice none 0 0) hq1
    refine bodyPost_ret (results_cell2 Tryz.results30 _ _ br 0 [.slice none 0 0, .slice none 0 0] _ rfl ?_ Tryz.underlying25 (by rfl) (by kernel_rfl)) rfl ?_
    · intro j v hj
      match j with
      | 0 => simp at hj; subst hj; rw [cell_of_row _ _ _ _ _ (0, 0) hq2]; rfl
      | 1 => simp at hj; subst hj; rw [cell_of_row _ _ _ _ _ (0, 0) hq2]; rfl
      | j + 2 => simp at hj
    · exact ⟨_, _, rfl, ((grv_0 _ _).set HRES.out).set hq1, ((HWB.out V1 B1.out).setCell HBR.out.2.1 _).setCell HBR.out.2.1 _⟩
  case pos =>
    have HA := Lib.hid (liveA_ok hz)
    have hnp := (check_zero.1 hz).2.2.1
    have HNP := Lib.hid hnp
    rw [HA.out, hz]
    have HCK := Lib.hid hz
    clear HA hz hnp
    go_enter Tryz.func30, Tryz.ntmps30
    go_upto_region 1 with (fail)
    rw [← hW1, ← hW2, ← s1, ← hbr]
    obtain ⟨g0, g1⟩ := HKG.out W2 (Below.refl _ _)
    clear hW1 hW2 s1 s2 hbr
    go_upto_region 5 with (go_at_call 46; refine (gCheck_any G na la nc lc W2 (HG2.out W2 (Below.refl _ _)).nodes (HG2.out W2 (Below.refl _ _)).links HQ.out (by have := HSZ.out; omega) (by have := HSZ.out; omega)).mono ?_; rintro e V1 ⟨rfl, hb⟩; rw [HCK.out]; have B1 := Lib.hid hb; clear hb g0 g1)
    obtain ⟨W3, hW3⟩ : ∃ W3, W3 = V1.alloc (.cells #[.slice none 0 0, .slice none 0 0] 25) := ⟨_, rfl⟩
    rw [← hW3]
    obtain ⟨bo, hbo⟩ : ∃ bo, bo = V1.heap.size := ⟨_, rfl⟩
    rw [← hbo]
    have b3 : Below W2.heap.size W2 W3 := by rw [hW3]; exact gNx B1.out (gAl _ _)
    have hga0 : GrAt W3 bo bo (.slice none 0 0) (.slice none 0 0) gr0 := ⟨Nat.le_refl _, by rw [hW3, hbo]; exact heap_alloc_new V1 _, (grv_0 _ _).nodes, (grv_0 _ _).links, (grv_0 W3 0).wts⟩
    have HGA0 := Lib.hid hga0
    have HB3 := Lib.hid b3
    have HBO : Hid (W2.heap.size ≤ bo) := Lib.hid (by rw [hbo]; exact B1.out.size)
    clear hW3 hbo b3 hga0 B1
    obtain ⟨g0, g1⟩ := HKG.out W3 HB3.out
    go_wp2_with fail
    clear g0 g1
    go_loopw [19] (fun v wr => ∃ (k : Nat) (vn : Value), v = .int .i64 (k : Int) ∧ k ≤ G.nodes.length ∧ GrAt wr bo bo vn (.slice none 0 0) ⟨(G.nodes.take k).filter (fun n : Nd => n.up), []⟩ ∧ Below W2.heap.size W2 wr) (fun v _ => G.nodes.length - (RowKit.intOf v).toNat)
    case atStart => exact ⟨0, _, rfl, by omega, HGA0.out, HB3.out⟩
    case round =>
      obtain ⟨k, vn, rfl, hk, hga, hbel⟩ := hrel
      by_cases hlt : k < G.nodes.length
      · 
        have hlti : (k : Int) < (G.nodes.length : Int) := by omega
        have hk0 : (0 : Int) ≤ (k : Int) := by omega
        have hkw : IntKind.i64.wrap ((k : Int) + 1) = (k : Int) + 1 := by rw [IntKind.wrap_i64]; have := HSZ.out; omega
        obtain ⟨b, o, rfl, hb, hc⟩ := (HN.out wr hbel).at k hlt
        obtain ⟨c0, c1, c2⟩ := hc k hlt
        have HFI := Lib.hid (filter_go (fun n : Nd => n.up) G.nodes k hlt)
        have HFIT : Hid ((((G.nodes.take k).filter (fun n : Nd => n.up)).length + 1) * 16 ≤ 140737488355328) := Lib.hid (by have := filter_le (fun n : Nd => n.up) G.nodes k; have := HSZ.out; omega)
        have HGAW : Hid (∀ V, Below wr.heap.size wr V → GrAt V bo bo vn (.slice none 0 0) ⟨(G.nodes.take k).filter (fun n : Nd => n.up), []⟩) := Lib.hid (fun V hV => hga.below hV)
        have HBW : Hid (∀ V, Below wr.heap.size wr V → Below W2.heap.size W2 V) := Lib.hid (fun V hV => gNx hbel hV)
        
        clear hc hga hbel hb
        generalize G.nodes[k] = nd at *
        generalize (G.nodes.take k).filter (fun n : Nd => n.up) = GL at *
        obtain ⟨id, up, mark⟩ := nd
        simp only at c0 c1 c2
        cases up with
        | false =>
          have HX := Lib.hid (HFI.out.trans (if_neg Bool.false_ne_true))
          clear HFI
          go_wp2_with fail
          refine ⟨⟨k + 1, vn, by simp, by omega, by rw [HX.out]; exact HGAW.out _ (gAl _ _), HBW.out _ (gAl _ _)⟩, ?_⟩
          simp [RowKit.intOf]; omega
        | true =>
          have HX := Lib.hid (HFI.out.trans (if_pos rfl))
          clear HFI
          obtain ⟨W4, hW4⟩ : ∃ W4, W4 = wr.alloc (.cells #[.int .i64 id, .bool true, .bool mark] 60) := ⟨_, rfl⟩
          have b4 : Below wr.heap.size wr W4 := by rw [hW4]; exact gAl _ _
          have r4 : W4.heap[wr.heap.size]? = some (.cells #[.int .i64 id, .bool true, .bool mark] 60 (0, 0)) := by rw [hW4]; exact heap_alloc_new wr _
          have HB4 := Lib.hid b4
          go_upto_region 8 with (fail)
          rw [← hW4]
          clear hW4 c0 c1 c2 b4
          have c0 : W4.cell? ⟨wr.heap.size, 0, none⟩ = some (.int .i64 id) := by rw [cell_of_row W4 _ 0 _ _ (0, 0) r4]; rfl
          have c1 : W4.cell? ⟨wr.heap.size, 1, none⟩ = some (.bool true) := by rw [cell_of_row W4 _ 1 _ _ (0, 0) r4]; rfl
          have c2 : W4.cell? ⟨wr.heap.size, 2, none⟩ = some (.bool mark) := by rw [cell_of_row W4 _ 2 _ _ (0, 0) r4]; rfl
          have e0 := (HGAW.out W4 HB4.out).cells.1
          clear r4
          obtain ⟨a2, c9, V6, hrun, hg6, hga6, hb6⟩ := (HGAW.out (W4.alloc (.cells #[.int .i64 id, .bool true, .bool mark] 60)) (gNx HB4.out (gAl _ _))).addN ⟨id, true, mark⟩ (vb := W4.heap.size) (heap_alloc_new W4 _) HFIT.out
          have HR := Lib.hid hrun
          have HG6 := Lib.hid hga6
          have HB6 := Lib.hid hb6
          have d0 : V6.cell? ⟨bo, 0, none⟩ = some vn := by rw [cell_of_row V6 _ 0 _ _ (0, 0) hg6]; rfl
          have d1 : V6.frozen? ⟨bo, 0, none⟩ = false := frozen_of_row V6 _ _ _ _ hg6
          clear hrun hg6 hga6 hb6
          go_wp2_with (at_builtin; refine Lib.wpList_append_run _ rfl _ _ _ _ rfl _ _ rfl rfl _ _ (HR.out _) ?_)
          refine ⟨⟨k + 1, _, by simp, by omega, by rw [HX.out]; exact HG6.out, ((HBW.out _ (gNx HB4.out (gAl _ _))).trans (HB6.out.mono HBO.out)).setCell HBO.out _⟩, ?_⟩
          simp [RowKit.intOf]; omega
      · have hnk : ¬ (k : Int) < (G.nodes.length : Int) := by omega
        have htk : G.nodes.take k = G.nodes := List.take_of_length_le (by omega)
        rw [htk] at hga
        have HGA1 : Hid (GrAt wr bo bo vn (.slice none 0 0) ⟨G.nodes.filter (fun n : Nd => n.up), []⟩) := Lib.hid hga
        have HBE1 := Lib.hid hbel
        obtain ⟨g0, g1⟩ := HKG.out wr hbel
        clear hlt htk hga hbel
        go_wp2_with fail
        clear g0 g1
        go_loopw [35] (fun v wr => ∃ (k : Nat) (vl : Value), v = .int .i64 (k : Int) ∧ k ≤ G.links.length ∧ GrAt wr bo bo vn vl ⟨G.nodes.filter (fun n : Nd => n.up), (G.links.take k).filter (liveL G.nodes)⟩ ∧ Below W2.heap.size W2 wr) (fun v _ => G.links.length - (RowKit.intOf v).toNat)
        case atStart => exact ⟨0, _, rfl, by omega, HGA1.out, HBE1.out⟩
        case round =>
          clear hk
          obtain ⟨k, vl, rfl, hk, hga, hbel⟩ := hrel
          by_cases hlt : k < G.links.length
          · 
            have hlti : (k : Int) < (G.links.length : Int) := by omega
            have hk0 : (0 : Int) ≤ (k : Int) := by omega
            have hkw : IntKind.i64.wrap ((k : Int) + 1) = (k : Int) + 1 := by rw [IntKind.wrap_i64]; have := HSZ.out; omega
            obtain ⟨b, o, rfl, hb, hc⟩ := (HL.out wr hbel).at k hlt
            obtain ⟨c0, c1, c2, c3⟩ := hc k hlt
            have HFI := Lib.hid (filter_go (liveL G.nodes) G.links k hlt)
            have HFIT : Hid ((((G.links.take k).filter (liveL G.nodes)).length + 1) * 32 ≤ 140737488355328) := Lib.hid (by have := filter_le (liveL G.nodes) G.links k; have := HSZ.out; omega)
            have HGAW : Hid (∀ V, Below wr.heap.size wr V → GrAt V bo bo vn vl ⟨G.nodes.filter (fun n : Nd => n.up), (G.links.take k).filter (liveL G.nodes)⟩) := Lib.hid (fun V hV => hga.below hV)
            have HBW : Hid (∀ V, Below wr.heap.size wr V → Below W2.heap.size W2 V) := Lib.hid (fun V hV => gNx hbel hV)
            have HWY := Lib.hid (HQ.out _ (List.getElem_mem hlt))
            clear hc hga hbel hb
            generalize G.links[k] = y at *
            generalize (G.links.take k).filter (liveL G.nodes) = GL at *
            obtain ⟨W4, hW4⟩ : ∃ W4, W4 = wr.alloc (.cells #[.int .i64 y.a, .int .i64 y.b, .float .f64 y.w, .bool y.up] 62) := ⟨_, rfl⟩
            have b4 : Below wr.heap.size wr W4 := by rw [hW4]; exact gAl _ _
            have r4 : W4.heap[wr.heap.size]? = some (.cells #[.int .i64 y.a, .int .i64 y.b, .float .f64 y.w, .bool y.up] 62 (0, 0)) := by rw [hW4]; exact heap_alloc_new wr _
            have s4 : wr.heap.size < W4.heap.size := by rw [hW4]; simp
            have HB4 := Lib.hid b4
            have HR4 : Hid (∀ V, Below W4.heap.size W4 V → V.heap[wr.heap.size]? = some (.cells #[.int .i64 y.a, .int .i64 y.b, .float .f64 y.w, .bool y.up] 62 (0, 0))) := Lib.hid (fun V hV => (hV.block _ s4).trans r4)
            go_upto_region 14 with (fail)
            rw [← hW4]
            clear hW4 c0 c1 c2 c3 b4 s4
            have c0 : W4.cell? ⟨wr.heap.size, 0, none⟩ = some (.int .i64 y.a) := by rw [cell_of_row W4 _ 0 _ _ (0, 0) r4]; rfl
            have c1 : W4.cell? ⟨wr.heap.size, 1, none⟩ = some (.int .i64 y.b) := by rw [cell_of_row W4 _ 1 _ _ (0, 0) r4]; rfl
            have c2 : W4.cell? ⟨wr.heap.size, 2, none⟩ = some (.float .f64 y.w) := by rw [cell_of_row W4 _ 2 _ _ (0, 0) r4]; rfl
            have c3 : W4.cell? ⟨wr.heap.size, 3, none⟩ = some (.bool y.up) := by rw [cell_of_row W4 _ 3 _ _ (0, 0) r4]; rfl
            obtain ⟨g0, g1⟩ := HKG.out W4 (HBW.out W4 HB4.out)
            clear r4
            go_wp2_with fail
            refine (gIsLive_any G.nodes na nc (some ⟨b, o, none⟩) G.links.length lc y W4 (HN.out W4 (HBW.out W4 HB4.out)) HNP.out (by have := HSZ.out; omega)).mono ?_
            rintro e V5 ⟨rfl, hb⟩
            have HR5 := Lib.hid (HR4.out V5 hb)
            have HB5 := Lib.hid (gNx HB4.out hb)
            clear hb g0 g1 c0 c1 c2 c3 HR4
            cases hv : liveL G.nodes y with
            | false =>
              have HX := Lib.hid (HFI.out.trans (if_neg (by rw [hv]; decide)))
              clear HFI hv
              go_wp2_with fail
              refine ⟨⟨k + 1, vl, by simp, by omega, by rw [HX.out]; exact HGAW.out _ HB5.out, HBW.out _ HB5.out⟩, ?_⟩
              simp [RowKit.intOf]; omega
            | true =>
              have HX := Lib.hid (HFI.out.trans (if_pos hv))
              clear HFI hv
              have c0 : V5.cell? ⟨wr.heap.size, 0, none⟩ = some (.int .i64 y.a) := by rw [cell_of_row V5 _ 0 _ _ (0, 0) HR5.out]; rfl
              have c1 : V5.cell? ⟨wr.heap.size, 1, none⟩ = some (.int .i64 y.b) := by rw [cell_of_row V5 _ 1 _ _ (0, 0) HR5.out]; rfl
              have c2 : V5.cell? ⟨wr.heap.size, 2, none⟩ = some (.float .f64 y.w) := by rw [cell_of_row V5 _ 2 _ _ (0, 0) HR5.out]; rfl
              have c3 : V5.cell? ⟨wr.heap.size, 3, none⟩ = some (.bool y.up) := by rw [cell_of_row V5 _ 3 _ _ (0, 0) HR5.out]; rfl
              have e0 := (HGAW.out V5 HB5.out).cells.2.1
              obtain ⟨a2, c9, V6, hrun, hg6, hga6, hb6⟩ := (HGAW.out (V5.alloc (.cells #[.int .i64 y.a, .int .i64 y.b, .float .f64 y.w, .bool y.up] 62)) (gNx HB5.out (gAl _ _))).addL y (vb := V5.heap.size) (heap_alloc_new V5 _) HFIT.out HWY.out
              have HR := Lib.hid hrun
              have HG6 := Lib.hid hga6
              have HB6 := Lib.hid hb6
              have d0 : V6.cell? ⟨bo, 1, none⟩ = some vl := by rw [cell_of_row V6 _ 1 _ _ (0, 0) hg6]; rfl
              have d1 : V6.frozen? ⟨bo, 1, none⟩ = false := frozen_of_row V6 _ _ _ _ hg6
              clear hrun hg6 hga6 hb6
              go_wp2_with (at_builtin; refine Lib.wpList_append_run _ rfl _ _ _ _ rfl _ _ rfl rfl _ _ (HR.out _) ?_)
              refine ⟨⟨k + 1, _, by simp, by omega, by rw [HX.out]; exact HG6.out, ((HBW.out _ (gNx HB5.out (gAl _ _))).trans (HB6.out.mono HBO.out)).setCell HBO.out _⟩, ?_⟩
              simp [RowKit.intOf]; omega
          · have hnk : ¬ (k : Int) < (G.links.length : Int) := by omega
            have htk : G.links.take k = G.links := List.take_of_length_le (by omega)
            rw [htk] at hga
            have hga2 : GrAt wr bo bo vn vl (liveG G) := hga
            have HGA2 := Lib.hid hga2
            obtain ⟨d0, d1, -, -⟩ := hga2.cells
            obtain ⟨an, cn, rfl⟩ := hga2.nodes.slice
            obtain ⟨al, cl, rfl⟩ := hga2.links.slice
            have hres := HRS.out wr hbel
            have x0 : wr.cell? ⟨br, 0, none⟩ = some (.slice none 0 0) := by rw [cell_of_row wr _ 0 _ _ (0, 0) hres]; rfl
            have x1 : wr.cell? ⟨br, 1, none⟩ = some (.slice none 0 0) := by rw [cell_of_row wr _ 1 _ _ (0, 0) hres]; rfl
            have x2 := frozen_of_row wr br 0 _ _ hres
            have x3 := frozen_of_row wr br 1 _ _ hres
            have HRES := Lib.hid hres
            have HBE2 := Lib.hid hbel
            have HBO2 : Hid (w.heap.size ≤ bo) := Lib.hid (Nat.le_trans HBR.out.2.2.2 HBO.out)
            clear hlt htk hga hga2 hbel hres
            go_wp2_with fail
            have hq1 := heap_setCell_same wr br 0 _ _ (.slice an (liveG G).nodes.length cn) HRES.out
            have hq2 := heap_setCell_same _ br 1 _ _ (.slice al (liveG G).links.length cl) hq1
            refine bodyPost_ret (results_cell2 Tryz.results30 _ _ br 0 [.slice an (liveG G).nodes.length cn, .slice al (liveG G).links.length cl] _ rfl ?_ Tryz.underlying25 (by rfl) (by kernel_rfl)) rfl ?_
            · intro j v hj
              match j with
              | 0 => simp at hj; subst hj; rw [cell_of_row _ _ _ _ _ (0, 0) hq2]; rfl
              | 1 => simp at hj; subst hj; rw [cell_of_row _ _ _ _ _ (0, 0) hq2]; rfl
              | j + 2 => simp at hj
            · exact ⟨_, _, rfl, ((HGA2.out.v.mono HBO2.out).set HRES.out).set hq1, ((HWB.out wr HBE2.out).setCell HBR.out.2.1 _).setCell HBR.out.2.1 _⟩
end Go.Proofs.YtjlfpjjfldbknaaGreat
