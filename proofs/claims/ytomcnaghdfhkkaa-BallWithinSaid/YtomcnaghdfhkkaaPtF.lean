/- Paths: netOf. -/
import Derived.Test.YtomcnaghdfhkkaaPtE
import Derived.Deep.DeepCutAuto
namespace Go.Proofs.Ytomcnaghdfhkkaa
open Go.RowKit Go.Lib Go.Fq Go.Pq Go.Iq Go.Nq Go.Ow
set_option linter.unusedVariables false
set_option linter.unusedSimpArgs false
set_option maxRecDepth 100000

theorem rwInfo : (Try.prog.info? 110).map (fun i => (i.zero, i.size, i.bytes)) = some (some (.slice none 0 0), 1, 24) := by kernel_rfl
theorem make_rows (n : Nat) (hn : n ≤ 1048576) (V : World) : (Instr.makeSlice 61 (.int .i64 (n : Int)) (.int .i64 (n : Int))).run Try.prog V = .ok (.slice (some ⟨V.heap.size, 0, none⟩) n n) (V.alloc (.cells (List.replicate n (.slice none 0 0)).toArray 110)) := by
  obtain ⟨i0, hi, hz0, hz1, hz2⟩ := info_parts rwInfo
  have h := run_make (P := Try.prog) V 61 110 i0 _ Try.underlying61 hi hz0 .i64 .i64 (n : Int) (n : Int) (by omega) (by omega) (by rw [hz2]; omega) (by omega)
  rw [h, hz1]
  simp only [Int.toNat_natCast, Nat.mul_one, Value.cells]
  have e : madeCells #[Value.slice none 0 0] n = (List.replicate n (.slice none 0 0)).toArray := by
    rw [← toList_madeCells_one]
  rw [e]
/-- What netOf tells. -/
def NetEnds (w : World) (G : Gr) (na : Option Addr) (nc : Nat) (e : Ending) (w' : World) : Prop :=
  (checkG G ≠ 0 ∧ e = .returned (.tuple #[.agg #[.slice none 0 0, .slice none 0 0], .int .i64 (checkG G)]) ∧ Below w.heap.size w w') ∨
  (checkG G = 0 ∧ ∃ rv, e = .returned (.tuple #[.agg #[.slice na G.nodes.length nc, rv], .int .i64 0]) ∧ rv.oneCell' = true ∧ RdsIn w' w.heap.size w'.heap.size (netL G.nodes (liveG G).links) rv ∧ Below w.heap.size w w')
/-- Behind the fourth step: the net is laid. -/
def NetCut (W3 : World) (na : Option Addr) (n nc : Nat) (x : Value) (wx : World) : Prop := ∃ nb rb, x = .pointer (some ⟨nb, 0, none⟩) ∧ W3.heap.size ≤ nb ∧ W3.heap.size ≤ rb ∧ Below W3.heap.size W3 wx ∧ wx.heap[nb]? = some (.cells #[.slice na n nc, .slice (some ⟨rb, 0, none⟩) n n] 63 (0, 0)) ∧ wx.heap[rb]? = some (.cells (Array.replicate n (.slice none 0 0)) 110 (0, 0))
theorem two_new (V : World) (o1 o2 : Obj) : ((V.alloc o1).alloc o2).heap[V.heap.size]? = some o1 ∧ ((V.alloc o1).alloc o2).heap[V.heap.size + 1]? = some o2 := by
  have h1 := heap_alloc_new V o1
  have h2 := heap_alloc_new (V.alloc o1) o2
  have hs : (V.alloc o1).heap.size = V.heap.size + 1 := by simp
  rw [hs] at h2
  exact ⟨((gAl (V.alloc o1) o2).block _ (by omega)).trans h1, h2⟩
def NetS (V : World) (nb ll : Nat) (na : Option Addr) (n nc rb q : Nat) : Prop := V.cell? ⟨nb, 1, none⟩ = some (.slice (some ⟨rb, 0, none⟩) n n) ∧ V.cell? ⟨ll, 2, none⟩ = some (.float .f64 (qw q))
theorem net_cell {w : World} {base rb u : Nat} {vs : List Value} {rows : List (List Rd)} (h : NetW w base rb vs rows) (hu : u < rows.length) : ∃ a n c, ∀ V, NetW V base rb vs rows → V.cell? ⟨rb, u, none⟩ = some (.slice a n c) := by
  have hv : u < vs.length := by rw [h.len]; exact hu
  obtain ⟨a, c, hs⟩ := (h.own u hv hu).slice
  refine ⟨a, rows[u].length, c, fun V hV => ?_⟩
  rw [cell_of_row V rb u _ _ (0, 0) hV.outer]
  simp [hv, hs]
theorem row_cell_of {w : World} {b u : Nat} {vs : List Value} {t : TypeId} {v : Value} (h : w.heap[b]? = some (.cells vs.toArray t (0, 0))) (hv : vs[u]? = some v) : w.cell? ⟨b, u, none⟩ = some v := by
  rw [cell_of_row w b u _ _ (0, 0) h]
  simpa using hv
theorem net_val {w : World} {base rb u : Nat} {vs : List Value} {rows : List (List Rd)} {v x : Value} (h : NetW w base rb vs rows) (hv : vs[u]? = some v) (hc : w.cell? ⟨rb, u, none⟩ = some x) : v = x := by
  rw [row_cell_of h.outer hv] at hc
  exact Option.some.inj hc
theorem wr2_at {base : Nat} {e f t : TypeId} {a b c : World} {j : Nat} (h : Wr2 base e f b c) (k : Below a.heap.size a b) (hj : ∃ cs, a.heap[j]? = some (.cells cs t (0, 0))) (h1 : t ≠ e) (h2 : t ≠ f) : c.heap[j]? = a.heap[j]? := by
  obtain ⟨cs, hcs⟩ := hj
  have hb := (k.block j (Array.getElem?_eq_some_iff.1 hcs).1).trans hcs
  exact (h.kept hb h1 h2).trans hcs.symm
theorem net_set {w : World} {base rb br o : Nat} {vs : List Value} {rows : List (List Rd)} {cs : Array Value} (hn : NetW w base rb vs rows) (hb : w.heap[br]? = some (.cells cs 63 (0, 0))) (x : Value) : NetW (w.setCell ⟨br, o, none⟩ x) base rb vs rows :=
  ⟨hn.hb, (Below.heap_setCell _ _ _ _ (heap_ne hn.outer hb (by decide))).trans hn.outer, hn.len, fun u hu hr => (hn.own u hu hr).keep (fun j cur hj => Below.heap_setCell _ _ _ _ (heap_ne hj hb (by decide))), hn.apart⟩
theorem net_start {w : World} {base rb n : Nat} (hb : base ≤ rb) (h : w.heap[rb]? = some (.cells (Array.replicate n (.slice none 0 0)) 110 (0, 0))) : NetW w base rb (List.replicate n (.slice none 0 0)) (List.replicate n []) :=
  ⟨hb, by rw [h]; simp, by simp, fun u hu hr => by simp only [List.getElem_replicate]; exact Or.inl ⟨rfl, rfl, none, rfl⟩, fun i j hi hj hij g n c n' c' h1 => by simp at h1⟩
set_option maxHeartbeats 16000000 in
theorem netOf_any (G : Gr) (na : Option Addr) (nc : Nat) (la : Option Addr) (lc : Nat) (w : World) (hin : GrIn w G na la) :
    Calls Try.prog 25 #[.agg #[.slice na G.nodes.length nc, .slice la G.links.length lc]] w fun e w' => NetEnds w G na nc e w' := by
  have hst := g_storeL
  obtain ⟨W1, hW1⟩ : ∃ W1, W1 = w.alloc (.cells #[.slice na G.nodes.length nc, .slice la G.links.length lc] 25) := ⟨_, rfl⟩
  obtain ⟨W2, hW2⟩ : ∃ W2, W2 = W1.alloc (.cells #[.slice none 0 0, .slice none 0 0] 63) := ⟨_, rfl⟩
  have b1 : Below w.heap.size w W1 := by rw [hW1]; exact gAl _ _
  have b2 : Below W1.heap.size W1 W2 := by rw [hW2]; exact gAl _ _
  have s1 : W1.heap.size = w.heap.size + 1 := by rw [hW1]; simp
  have s2 : W2.heap.size = W1.heap.size + 1 := by rw [hW2]; simp
  have r1 : W1.heap[w.heap.size]? = some (.cells #[.slice na G.nodes.length nc, .slice la G.links.length lc] 25 (0, 0)) := by rw [hW1]; exact heap_alloc_new w _
  have r2 : W2.heap[W1.heap.size]? = some (.cells #[.slice none 0 0, .slice none 0 0] 63 (0, 0)) := by rw [hW2]; exact heap_alloc_new W1 _
  have hb2 : Below w.heap.size w W2 := gNx b1 b2
  have q1 : W2.heap[w.heap.size]? = some (.cells #[.slice na G.nodes.length nc, .slice la G.links.length lc] 25 (0, 0)) := (b2.block _ (by omega)).trans r1
  obtain ⟨br, hbr⟩ : ∃ br, br = W1.heap.size := ⟨_, rfl⟩
  have HBR : Hid (br < W2.heap.size ∧ w.heap.size ≤ br ∧ br ≠ w.heap.size ∧ w.heap.size < W2.heap.size) := Lib.hid (by omega)
  have HKG : Hid (∀ V, Below W2.heap.size W2 V → V.cell? ⟨w.heap.size, 0, none⟩ = some (.slice na G.nodes.length nc) ∧ V.cell? ⟨w.heap.size, 1, none⟩ = some (.slice la G.links.length lc)) := Lib.hid (fun V hV => by
    have := (hV.block w.heap.size (by omega)).trans q1
    exact ⟨by rw [cell_of_row V _ 0 _ _ (0, 0) this]; rfl, by rw [cell_of_row V _ 1 _ _ (0, 0) this]; rfl⟩)
  have HRS : Hid (∀ V : World, V.heap[br]? = W2.heap[br]? → V.heap[br]? = some (.cells #[.slice none 0 0, .slice none 0 0] 63 (0, 0))) := Lib.hid (fun V hV => by rw [hbr] at hV ⊢; exact hV.trans r2)
  have HWB : Hid (∀ V, Below W2.heap.size W2 V → Below w.heap.size w V) := Lib.hid (fun V hV => gNx hb2 hV)
  have HN : Hid (∀ V, Below w.heap.size w V → NodesIn V V.heap.size G.nodes na) := Lib.hid (fun V hV => hin.nodes.kept (fun i hi => hV.block i hi) hV.size)
  have HG2 : Hid (GrIn W2 G na la) := Lib.hid (hin.below hb2)
  have HQ := Lib.hid hin.wts
  clear hin b1 b2 r1 r2 q1 hb2
  by_cases hz : checkG G = 0
  case neg =>
    have HZ := Lib.hid hz
    have HLV := Lib.hid (gLive_any G na nc la lc W2 HG2.out)
    rw [liveA_no hz] at HLV
    have hz2 : (checkG G != 0) = true := by simpa using hz
    obtain ⟨ce, hce⟩ : ∃ ce, ce = checkG G := ⟨_, rfl⟩
    rw [← hce] at hz2 HLV
    have HCE := Lib.hid hce
    clear hz hce
    go_enter Try.func25, Try.ntmps25
    go_upto_region 1 with (fail)
    rw [← hW1, ← hW2, ← s1, ← hbr]
    obtain ⟨g0, g1⟩ := HKG.out W2 (Below.refl _ _)
    clear hW1 hW2 s1 s2 hbr
    go_wp2_with fail
    refine HLV.out.mono ?_
    rintro e V1 ⟨vn, vl, rfl, hgv, hb⟩
    obtain ⟨an, cn, rfl⟩ := hgv.nodes.slice
    obtain ⟨al, cl, rfl⟩ := hgv.links.slice
    have B1 := Lib.hid hb
    have hres := HRS.out V1 (hb.block _ HBR.out.1)
    have x0 : V1.cell? ⟨br, 0, none⟩ = some (.slice none 0 0) := by rw [cell_of_row V1 _ 0 _ _ (0, 0) hres]; rfl
    have x1 : V1.cell? ⟨br, 1, none⟩ = some (.slice none 0 0) := by rw [cell_of_row V1 _ 1 _ _ (0, 0) hres]; rfl
    have x2 := frozen_of_row V1 br 0 _ _ hres
    have x3 := frozen_of_row V1 br 1 _ _ hres
    have HRES := Lib.hid hres
    have hbs : br < V1.heap.size := Nat.lt_of_lt_of_le HBR.out.1 hb.size
    have HBS := Lib.hid hbs
    clear hb hres g0 g1 hgv
    go_wp2_with fail
    have hq1 := heap_setCell_same V1 br 0 _ _ (.slice none 0 0) HRES.out
    have hq2 := heap_setCell_same _ br 1 _ _ (.slice none 0 0) hq1
    have hbel := ((HWB.out V1 B1.out).setCell (p := ⟨br, 0, none⟩) HBR.out.2.1 (.slice none 0 0)).setCell (p := ⟨br, 1, none⟩) HBR.out.2.1 (.slice none 0 0)
    have hq3 := ((gAl _ (.cells #[.slice an gr0.nodes.length cn, .slice al gr0.links.length cl] 25)).block br (Array.getElem?_eq_some_iff.1 hq2).1).trans hq2
    refine bodyPost_ret (results_cell2 Try.results25 _ _ br 0 [.slice none 0 0, .slice none 0 0] _ rfl ?_ Try.underlying63 (by rfl) (by kernel_rfl)) rfl ?_
    · intro j v hj
      match j with
      | 0 => simp at hj; subst hj; rw [cell_of_row _ _ _ _ _ (0, 0) hq3]; rfl
      | 1 => simp at hj; subst hj; rw [cell_of_row _ _ _ _ _ (0, 0) hq3]; rfl
      | j + 2 => simp at hj
    · exact Or.inl ⟨HZ.out, by rw [← HCE.out]; rfl, hbel.alloc hbel.size _⟩
  case pos =>
    obtain ⟨n1, n2, n3, n4⟩ := check_zero.1 hz
    have HNL : Hid (G.nodes.length ≤ 256 ∧ G.links.length ≤ 4096) := Lib.hid ⟨n1, n2⟩
    have HNP := Lib.hid n3
    have HZ := Lib.hid hz
    have HLV := Lib.hid (gLive_any G na nc la lc W2 HG2.out)
    rw [liveA_ok hz, hz] at HLV
    have HWF : Hid (∀ y ∈ (liveG G).links, ∃ q, 4 ≤ q ∧ q ≤ 4194304 ∧ y.w = qw q) := Lib.hid (fun y hy => by
      obtain ⟨-, -, a1, a2, a3, a4, a5, a6, a7⟩ := live_ends hz hy
      exact weight_q y.w (HQ.out y a7) a6)
    clear hz n1 n2 n3 n4
    go_enter Try.func25, Try.ntmps25
    go_upto_region 1 with (fail)
    rw [← hW1, ← hW2, ← s1, ← hbr]
    obtain ⟨g0, g1⟩ := HKG.out W2 (Below.refl _ _)
    clear hW1 hW2 s1 s2 hbr
    go_wp2_with fail
    refine HLV.out.mono ?_
    rintro e V1 ⟨vn, vl, rfl, hgv, hb⟩
    obtain ⟨an, cn, rfl⟩ := hgv.nodes.slice
    obtain ⟨al, cl, rfl⟩ := hgv.links.slice
    have HB := Lib.hid hb
    have HGV := Lib.hid hgv
    clear hb g0 g1 hgv
    go_upto_region 4 with (fail)
    obtain ⟨W3, hW3⟩ : ∃ W3, W3 = V1.alloc (.cells #[.slice an (liveG G).nodes.length cn, .slice al (liveG G).links.length cl] 25) := ⟨_, rfl⟩
    rw [← hW3]
    have hb3 : Below W2.heap.size W2 W3 := by rw [hW3]; exact gNx HB.out (gAl _ _)
    have HB3 := Lib.hid hb3
    have HLB : Hid (W3.heap[V1.heap.size]? = some (.cells #[.slice an (liveG G).nodes.length cn, .slice al (liveG G).links.length cl] 25 (0, 0))) := Lib.hid (by rw [hW3]; exact heap_alloc_new V1 _)
    have HLO : Hid (Own W3 W2.heap.size 77 4 (.slice al (liveG G).links.length cl) (liveG G).links.length (lkRow (liveG G).links)) := Lib.hid (by rw [hW3]; exact HGV.out.links.below (gAl _ _))
    obtain ⟨lb, hlb⟩ : ∃ lb, lb = V1.heap.size := ⟨_, rfl⟩
    rw [← hlb] at HLB ⊢
    have HLBS : Hid (w.heap.size ≤ lb ∧ lb < W3.heap.size) := Lib.hid (by rw [hW3, hlb]; simp; have := HB.out.size; have := HBR.out; omega)
    have HKG3 : Hid (∀ V, Below W3.heap.size W3 V → V.cell? ⟨w.heap.size, 0, none⟩ = some (.slice na G.nodes.length nc)) := Lib.hid (fun V hV => (HKG.out V (gNx HB3.out hV)).1)
    clear hW3 hlb HGV HB hb3 HLV
    go_cut [6] (fun x wx => NetCut W3 na G.nodes.length nc x wx)
    case first =>
      have hmk := make_rows G.nodes.length (by have := HNL.out; omega)
      refine wp_region_held_drew (S := fun V => V.cell? ⟨w.heap.size, 0, none⟩ = some (.slice na G.nodes.length nc)) (by kernel_rfl) (HKG3.out _ (Below.drew (Below.refl _ _))) (fun hH => ?_)
      have B0 : Hid (Below W3.heap.size W3 W3.drew) := Lib.hid (Below.drew (Below.refl _ _))
      generalize W3.drew = V0 at *
      have hs0 := HKG3.out V0 B0.out
      refine tk 0 (by assumption) rfl (by kernel_rfl) (fun _ _ _ h => h) (fun V hV => by go_simp; try with_reducible rfl) ?_
      try simp only [Act.put, List.setIfInBounds_toArray, List.set_cons_zero, List.set_cons_succ, List.getElem_toArray, List.getElem_cons_succ, List.getElem_cons_zero]
      refine tk 1 (by assumption) rfl (by kernel_rfl) (fun _ _ _ h => h) (fun V hV => by have hx : V.cell? ⟨w.heap.size, 0, none⟩ = some (.slice na G.nodes.length nc) := hV; go_simp; try with_reducible rfl) ?_
      try simp only [Act.put, List.setIfInBounds_toArray, List.set_cons_zero, List.set_cons_succ, List.getElem_toArray, List.getElem_cons_succ, List.getElem_cons_zero]
      refine tk 2 (by assumption) rfl (by kernel_rfl) (fun _ _ _ h => h) (fun V hV => by go_simp; try with_reducible rfl) ?_
      try simp only [Act.put, List.setIfInBounds_toArray, List.set_cons_zero, List.set_cons_succ, List.getElem_toArray, List.getElem_cons_succ, List.getElem_cons_zero]
      refine tk 3 (by assumption) rfl (by kernel_rfl) (fun _ _ _ h => h) (fun V hV => by have hx : V.cell? ⟨w.heap.size, 0, none⟩ = some (.slice na G.nodes.length nc) := hV; go_simp; try with_reducible rfl) ?_
      try simp only [Act.put, List.setIfInBounds_toArray, List.set_cons_zero, List.set_cons_succ, List.getElem_toArray, List.getElem_cons_succ, List.getElem_cons_zero]
      refine tk 4 (by assumption) rfl (by kernel_rfl) (fun _ _ _ h => h) (fun V hV => by go_simp; try with_reducible rfl) ?_
      try simp only [Act.put, List.setIfInBounds_toArray, List.set_cons_zero, List.set_cons_succ, List.getElem_toArray, List.getElem_cons_succ, List.getElem_cons_zero]
      refine wpAnyH_ready (rs := [5, 7]) (by kernel_rfl) (by simp) ?_
      refine AllReadyH.cons (o := _) rfl (fun K hK => ?_) (AllReadyH.cons (o := _) rfl (fun K hK => ?_) (AllReadyH.nil))
      · have hm := hmk
        go_simp
        refine hK.out _ _ (HKG3.out _ (gNx B0.out (gAl _ _))) (fun hH => ?_)
        clear hK K hm
        try simp only [Act.put, List.setIfInBounds_toArray, List.set_cons_zero, List.set_cons_succ, List.getElem_toArray, List.getElem_cons_succ, List.getElem_cons_zero]
        refine tk 6 (by assumption) rfl (by kernel_rfl) (fun _ _ _ h => h) (fun V hV => by go_simp; try with_reducible rfl) ?_
        try simp only [Act.put, List.setIfInBounds_toArray, List.set_cons_zero, List.set_cons_succ, List.getElem_toArray, List.getElem_cons_succ, List.getElem_cons_zero]
        refine wpAnyH_ready (rs := [7]) (by kernel_rfl) (by simp) ?_
        refine AllReadyH.cons (o := _) rfl (fun K hK => ?_) AllReadyH.nil
        go_simp
        refine hK.out _ _ (HKG3.out _ (gNx B0.out (gNx (gAl _ _) (gAl _ _)))) (fun hH => ?_)
        clear hK K
        try simp only [Act.put, List.setIfInBounds_toArray, List.set_cons_zero, List.set_cons_succ, List.getElem_toArray, List.getElem_cons_succ, List.getElem_cons_zero]
        refine wpAnyH_ready (rs := [8]) (by kernel_rfl) (by simp) ?_
        refine AllReadyH.cons (o := _) rfl (fun K hK => ?_) AllReadyH.nil
        go_simp
        refine hK.out _ _ (HKG3.out _ (gNx B0.out (gNx (gAl _ _) (gAl _ _)))) (fun hH => ?_)
        clear hK K
        try simp only [Act.put, List.setIfInBounds_toArray, List.set_cons_zero, List.set_cons_succ, List.getElem_toArray, List.getElem_cons_succ, List.getElem_cons_zero]
        refine wpAnyH_done (by kernel_rfl) ?_ _
        go_wp2_with fail
        go_meet
        exact ⟨_, _, rfl, by have := B0.out.size; omega, B0.out.size, gNx B0.out (gNx (gAl _ _) (gAl _ _)), (two_new _ _ _).2, (two_new _ _ _).1⟩
      · go_simp
        refine hK.out _ _ (HKG3.out _ (gNx B0.out (gAl _ _))) (fun hH => ?_)
        clear hK K
        try simp only [Act.put, List.setIfInBounds_toArray, List.set_cons_zero, List.set_cons_succ, List.getElem_toArray, List.getElem_cons_succ, List.getElem_cons_zero]
        refine wpAnyH_ready (rs := [5]) (by kernel_rfl) (by simp) ?_
        refine AllReadyH.cons (o := _) rfl (fun K hK => ?_) AllReadyH.nil
        have hm := hmk
        go_simp
        refine hK.out _ _ (HKG3.out _ (gNx B0.out (gNx (gAl _ _) (gAl _ _)))) (fun hH => ?_)
        clear hK K hm
        try simp only [Act.put, List.setIfInBounds_toArray, List.set_cons_zero, List.set_cons_succ, List.getElem_toArray, List.getElem_cons_succ, List.getElem_cons_zero]
        refine tk 6 (by assumption) rfl (by kernel_rfl) (fun _ _ _ h => h) (fun V hV => by go_simp; try with_reducible rfl) ?_
        try simp only [Act.put, List.setIfInBounds_toArray, List.set_cons_zero, List.set_cons_succ, List.getElem_toArray, List.getElem_cons_succ, List.getElem_cons_zero]
        refine wpAnyH_ready (rs := [8]) (by kernel_rfl) (by simp) ?_
        refine AllReadyH.cons (o := _) rfl (fun K hK => ?_) AllReadyH.nil
        go_simp
        refine hK.out _ _ (HKG3.out _ (gNx B0.out (gNx (gAl _ _) (gAl _ _)))) (fun hH => ?_)
        clear hK K
        try simp only [Act.put, List.setIfInBounds_toArray, List.set_cons_zero, List.set_cons_succ, List.getElem_toArray, List.getElem_cons_succ, List.getElem_cons_zero]
        refine wpAnyH_done (by kernel_rfl) ?_ _
        go_wp2_with fail
        go_meet
        exact ⟨_, _, rfl, B0.out.size, by have := B0.out.size; omega, gNx B0.out (gNx (gAl _ _) (gAl _ _)), (two_new _ _ _).1, (two_new _ _ _).2⟩
    case rest =>
      obtain ⟨nb, rb, rfl, hnb, hrb, hbw, hnh, hrh⟩ := hcut
      obtain ⟨wo, rfl⟩ : ∃ wo : World, wo = wc := ⟨_, rfl⟩
      have HNW0 := Lib.hid (net_start hrb hrh)
      have HNH := Lib.hid hnh
      have HBW := Lib.hid hbw
      have HNB : Hid (W3.heap.size ≤ nb ∧ W3.heap.size ≤ rb) := Lib.hid ⟨hnb, hrb⟩
      obtain ⟨al', cl', hsl, hlin, -⟩ := ownL_in HLO.out
      simp only [Value.slice.injEq, true_and] at hsl
      obtain ⟨rfl, rfl⟩ := hsl
      have HLI : Hid (∀ V, Below W3.heap.size W3 V → LinksIn V V.heap.size (liveG G).links al) := Lib.hid (fun V hV => hlin.kept (fun i hi => hV.block i hi) hV.size)
      have HLC : Hid (∀ V, Below W3.heap.size W3 V → V.cell? ⟨lb, 1, none⟩ = some (.slice al (liveG G).links.length cl)) := Lib.hid (fun V hV => by
        have := (hV.block lb HLBS.out.2).trans HLB.out
        rw [cell_of_row V _ 1 _ _ (0, 0) this]; rfl)
      have HLL : Hid ((liveG G).links.length ≤ 4096) := Lib.hid (Nat.le_trans (List.length_filter_le _ _) HNL.out.2)
      have hc1 := HLC.out wo hbw
      clear hnb hrb hbw hnh hrh hlin HLO HLB
      go_wp2_with fail
      clear hc1
      go_loopw [32] (fun v wr => ∃ (k : Nat) (vs : List Value), v = .int .i64 (k : Int) ∧ k ≤ (liveG G).links.length ∧ NetW wr W3.heap.size rb vs (netL G.nodes ((liveG G).links.take k)) ∧ Wr2 W3.heap.size 112 110 wo wr) (fun v _ => (liveG G).links.length - (RowKit.intOf v).toNat)
      case atStart => exact ⟨0, _, rfl, by omega, by rw [List.take_zero, netL_nil]; exact HNW0.out, Wr2.refl _ _ _ _⟩
      case round =>
        obtain ⟨k, vs, rfl, hk, hnw, hwr⟩ := hrel
        have hbel : Below W3.heap.size W3 wr := HBW.out.trans (hwr.below HBW.out.size)
        have HNW := Lib.hid hnw
        have HWR := Lib.hid hwr
        have HBE := Lib.hid hbel
        have HNC : Hid (∀ V : World, V.heap[nb]? = wr.heap[nb]? → V.cell? ⟨nb, 0, none⟩ = some (.slice na G.nodes.length nc) ∧ V.cell? ⟨nb, 1, none⟩ = some (.slice (some ⟨rb, 0, none⟩) G.nodes.length G.nodes.length)) := Lib.hid (fun V hV => by
          have := hV.trans (hwr.kept HNH.out (by decide) (by decide))
          exact ⟨by rw [cell_of_row V _ 0 _ _ (0, 0) this]; rfl, by rw [cell_of_row V _ 1 _ _ (0, 0) this]; rfl⟩)
        have HNBS : Hid (nb < wr.heap.size) := Lib.hid (Nat.lt_of_lt_of_le (Array.getElem?_eq_some_iff.1 HNH.out).1 hwr.size)
        clear hnw hwr hbel
        by_cases hlt : k < (liveG G).links.length
        · have hlti : (k : Int) < ((liveG G).links.length : Int) := by omega
          have hk0 : (0 : Int) ≤ (k : Int) := by omega
          have hkw : IntKind.i64.wrap ((k : Int) + 1) = (k : Int) + 1 := by rw [IntKind.wrap_i64]; have := HLL.out; omega
          obtain ⟨b, o, rfl, hb, hc⟩ := (HLI.out wr HBE.out).at k hlt
          obtain ⟨c0, c1, c2, c3⟩ := hc k hlt
          obtain ⟨e1, e2, e3, e4, e5, -⟩ := live_ends HZ.out (List.getElem_mem hlt)
          obtain ⟨q, q1, q2, q3⟩ := HWF.out _ (List.getElem_mem hlt)
          have hqn : qn (liveG G).links[k].w = q := by rw [q3]; exact qn_qw (by omega)
          have HSN := Lib.hid (netL_snoc ((liveG G).links.take k) e3 e4 e5)
          rw [List.take_append_getElem hlt, hqn] at HSN
          clear hc hb e1 e2 hqn
          generalize (liveG G).links[k] = y at *
          obtain ⟨ya, yb, yw, yu⟩ := y
          simp only at c0 c1 c2 c3 e3 e4 e5 q3 HSN
          subst q3
          have HPA := Lib.hid (fun (V : World) (hV : Below wr.heap.size wr V) => pPlace_any G.nodes na nc (.slice (some ⟨rb, 0, none⟩) G.nodes.length G.nodes.length) ya V (HN.out V ((HWB.out _ (gNx HB3.out HBE.out)).trans (hV.mono (by have := HBE.out.size; have := HB3.out.size; have := HBR.out; omega)))) HNP.out (by have := HNL.out; omega) rfl)
          have HPB := Lib.hid (fun (V : World) (hV : Below wr.heap.size wr V) => pPlace_any G.nodes na nc (.slice (some ⟨rb, 0, none⟩) G.nodes.length G.nodes.length) yb V (HN.out V ((HWB.out _ (gNx HB3.out HBE.out)).trans (hV.mono (by have := HBE.out.size; have := HB3.out.size; have := HBR.out; omega)))) HNP.out (by have := HNL.out; omega) rfl)
          generalize Nq.ahead G.nodes ya = pa at *
          generalize Nq.ahead G.nodes yb = pb at *
          obtain ⟨W6, hW6⟩ : ∃ W6, W6 = wr.alloc (.cells #[.int .i64 ya, .int .i64 yb, .float .f64 (qw q), .bool yu] 77) := ⟨_, rfl⟩
          have b6 : Below wr.heap.size wr W6 := by rw [hW6]; exact gAl _ _
          have r6 : W6.heap[wr.heap.size]? = some (.cells #[.int .i64 ya, .int .i64 yb, .float .f64 (qw q), .bool yu] 77 (0, 0)) := by rw [hW6]; exact heap_alloc_new wr _
          have s6 : wr.heap.size < W6.heap.size := by rw [hW6]; simp
          have HB6 := Lib.hid b6
          have HS6 := Lib.hid s6
          have HLK := Lib.hid r6
          have HC6 : Hid (∀ V : World, V.heap[wr.heap.size]? = W6.heap[wr.heap.size]? → V.cell? ⟨wr.heap.size, 0, none⟩ = some (.int .i64 ya) ∧ V.cell? ⟨wr.heap.size, 1, none⟩ = some (.int .i64 yb) ∧ V.cell? ⟨wr.heap.size, 2, none⟩ = some (.float .f64 (qw q))) := Lib.hid (fun V hV => by
            have := hV.trans r6
            exact ⟨by rw [cell_of_row V _ 0 _ _ (0, 0) this]; rfl, by rw [cell_of_row V _ 1 _ _ (0, 0) this]; rfl, by rw [cell_of_row V _ 2 _ _ (0, 0) this]; rfl⟩)
          obtain ⟨ll, hll⟩ : ∃ ll, ll = wr.heap.size := ⟨_, rfl⟩
          have HLLB : Hid (nb < ll ∧ ll = wr.heap.size) := Lib.hid ⟨by rw [hll]; exact HNBS.out, hll⟩
          go_upto_region 8 with (fail)
          rw [← hW6]
          rw [← hll] at HC6 HLK ⊢
          clear hW6 c0 c1 c2 c3 b6 r6 s6 hll
          obtain ⟨m0, m1⟩ := HNC.out W6 (HB6.out.block _ HNBS.out)
          obtain ⟨l0, l1, l2⟩ := HC6.out W6 rfl
          go_wp2_with fail
          refine (HPA.out W6 HB6.out).mono ?_
          rintro e W7 ⟨rfl, hb7⟩
          have HB7 := Lib.hid hb7
          clear hb7 m0 m1 l0 l1 l2
          obtain ⟨m0, m1⟩ := HNC.out W7 ((gNx HB6.out HB7.out).block _ HNBS.out)
          obtain ⟨l0, l1, l2⟩ := HC6.out W7 (HB7.out.block _ (by rw [HLLB.out.2]; exact HS6.out))
          go_wp2_with fail
          refine (HPB.out W7 (gNx HB6.out HB7.out)).mono ?_
          rintro e W8 ⟨rfl, hb8⟩
          have HB8 := Lib.hid (gNx HB7.out hb8)
          clear hb8 m0 m1 l0 l1 l2 HPA HPB
          go_upto_region 10 with (fail)
          have HV8 : Hid (NetW W8 W3.heap.size rb vs (netL G.nodes ((liveG G).links.take k))) := Lib.hid (HNW.out.keep (gNx HB6.out HB8.out))
          have HR8 : Hid (Wr2 W3.heap.size 112 110 wo W8) := Lib.hid (HWR.out.trans (Wr2.of_below (gNx HB6.out HB8.out)))
          have HX8 : Hid (∀ V, V.heap[nb]? = W8.heap[nb]? → V.heap[ll]? = W8.heap[ll]? → NetS V nb ll na G.nodes.length nc rb q) := Lib.hid (fun V h1 h2 => by
            obtain ⟨m0, m1⟩ := HNC.out V (h1.trans ((gNx HB6.out HB8.out).block _ HNBS.out))
            obtain ⟨l0, l1, l2⟩ := HC6.out V (h2.trans (HB8.out.block _ (by rw [HLLB.out.2]; exact HS6.out)))
            exact ⟨m1, l2⟩)
          have HT8 : Hid ((∃ cs, W8.heap[nb]? = some (.cells cs 63 (0, 0))) ∧ (∃ cs, W8.heap[ll]? = some (.cells cs 77 (0, 0)))) := Lib.hid ⟨⟨_, HR8.out.kept HNH.out (by decide) (by decide)⟩, ⟨_, (HB8.out.block _ (by rw [HLLB.out.2]; exact HS6.out)).trans HLK.out⟩⟩
          have HU8 : Hid (pa < G.nodes.length ∧ pb < G.nodes.length ∧ W3.heap.size ≤ W8.heap.size) := Lib.hid ⟨e3, e4, Nat.le_trans HBE.out.size (gNx HB6.out HB8.out).size⟩
          have HDG : Hid (∀ u, ((netL G.nodes ((liveG G).links.take k)).getD u []).length < 8193) := Lib.hid (fun u => Nat.lt_of_le_of_lt (deg_one G.nodes _ u) (by rw [List.length_take]; have := HLL.out; omega))
          have hap : (pa : Int) < (G.nodes.length : Int) := by omega
          have hap0 : (0 : Int) ≤ (pa : Int) := by omega
          have hbp : (pb : Int) < (G.nodes.length : Int) := by omega
          have hbp0 : (0 : Int) ≤ (pb : Int) := by omega
          clear HNC HC6 e3 e4 e5
          have LENX : Hid ((netL G.nodes ((liveG G).links.take k)).length = G.nodes.length) := Lib.hid (netL_len _ _)
          have HDX := HDG
          have HTT := HT8
          have HTX : Hid (nb < W8.heap.size ∧ ll < W8.heap.size) := Lib.hid ⟨by obtain ⟨cs, h⟩ := HT8.out.1; exact (Array.getElem?_eq_some_iff.1 h).1, by obtain ⟨cs, h⟩ := HT8.out.2; exact (Array.getElem?_eq_some_iff.1 h).1⟩
          have HSZ : Hid (W8.heap.size ≤ W8.heap.size) := Lib.hid (Nat.le_refl _)
          go_cut [9] (fun x wx => x = .int .i64 (pa : Int) ∧ ∃ vs2, NetW wx W3.heap.size rb vs2 (addR (netL G.nodes ((liveG G).links.take k)) pa (pb, q)) ∧ Wr2 W3.heap.size 112 110 W8 wx)
          case first =>
            refine wp_region_held_drew (S := fun V => NetS V nb ll na G.nodes.length nc rb q) (by kernel_rfl) (HX8.out _ rfl rfl) (fun hH => ?_)
            have B0 : Hid (Below W8.heap.size W8 W8.drew) := Lib.hid (Below.drew (Below.refl _ _))
            generalize W8.drew = V0 at *
            have hs0 : NetS V0 nb ll na G.nodes.length nc rb q := HX8.out V0 (B0.out.block _ HTX.out.1) (B0.out.block _ HTX.out.2)
            obtain ⟨a0, n0, c0, HA0⟩ : ∃ a0 n0 c0, Hid (∀ V, NetW V W3.heap.size rb vs (netL G.nodes ((liveG G).links.take k)) → V.cell? ⟨rb, pa, none⟩ = some (.slice a0 n0 c0)) := by
              obtain ⟨a0, n0, c0, h⟩ := net_cell HV8.out (u := pa) (by rw [LENX.out]; exact HU8.out.1)
              exact ⟨a0, n0, c0, Lib.hid h⟩
            refine tk 0 (by assumption) rfl (by kernel_rfl) (fun _ _ _ h => h) (fun V hV => by go_simp; try with_reducible rfl) ?_
            try simp only [Act.put, List.setIfInBounds_toArray, List.set_cons_zero, List.set_cons_succ, List.getElem_toArray, List.getElem_cons_succ, List.getElem_cons_zero]
            refine tk 1 (by assumption) rfl (by kernel_rfl) (fun _ _ _ h => h) (fun V hV => by obtain ⟨hx1, hx2⟩ := hV; go_simp; try with_reducible rfl) ?_
            try simp only [Act.put, List.setIfInBounds_toArray, List.set_cons_zero, List.set_cons_succ, List.getElem_toArray, List.getElem_cons_succ, List.getElem_cons_zero]
            refine tk 2 (by assumption) rfl (by kernel_rfl) (fun _ _ _ h => h) (fun V hV => by go_simp; try with_reducible rfl) ?_
            try simp only [Act.put, List.setIfInBounds_toArray, List.set_cons_zero, List.set_cons_succ, List.getElem_toArray, List.getElem_cons_succ, List.getElem_cons_zero]
            refine tk 3 (by assumption) rfl (by kernel_rfl) (fun _ _ _ h => h) (fun V hV => by go_simp; try with_reducible rfl) ?_
            try simp only [Act.put, List.setIfInBounds_toArray, List.set_cons_zero, List.set_cons_succ, List.getElem_toArray, List.getElem_cons_succ, List.getElem_cons_zero]
            refine tk 4 (by assumption) rfl (by kernel_rfl) (fun _ _ _ h => h) (fun V hV => by obtain ⟨hx1, hx2⟩ := hV; go_simp; try with_reducible rfl) ?_
            try simp only [Act.put, List.setIfInBounds_toArray, List.set_cons_zero, List.set_cons_succ, List.getElem_toArray, List.getElem_cons_succ, List.getElem_cons_zero]
            refine tk 5 (by assumption) rfl (by kernel_rfl) (fun _ _ _ h => h) (fun V hV => by go_simp; try with_reducible rfl) ?_
            try simp only [Act.put, List.setIfInBounds_toArray, List.set_cons_zero, List.set_cons_succ, List.getElem_toArray, List.getElem_cons_succ, List.getElem_cons_zero]
            refine tk 6 (by assumption) rfl (by kernel_rfl) (fun _ _ _ h => h) (fun V hV => by go_simp; try with_reducible rfl) ?_
            try simp only [Act.put, List.setIfInBounds_toArray, List.set_cons_zero, List.set_cons_succ, List.getElem_toArray, List.getElem_cons_succ, List.getElem_cons_zero]
            refine tk 8 (by assumption) rfl (by kernel_rfl) (fun _ _ _ h => h) (fun V hV => by go_simp; try with_reducible rfl) ?_
            try simp only [Act.put, List.setIfInBounds_toArray, List.set_cons_zero, List.set_cons_succ, List.getElem_toArray, List.getElem_cons_succ, List.getElem_cons_zero]
            refine tk 9 (by assumption) rfl (by kernel_rfl) (fun _ _ _ h => h) (fun V hV => by go_simp; try with_reducible rfl) ?_
            try simp only [Act.put, List.setIfInBounds_toArray, List.set_cons_zero, List.set_cons_succ, List.getElem_toArray, List.getElem_cons_succ, List.getElem_cons_zero]
            refine tk 10 (by assumption) rfl (by kernel_rfl) (fun _ _ _ h => h) (fun V hV => by obtain ⟨hx1, hx2⟩ := hV; go_simp; try with_reducible rfl) ?_
            try simp only [Act.put, List.setIfInBounds_toArray, List.set_cons_zero, List.set_cons_succ, List.getElem_toArray, List.getElem_cons_succ, List.getElem_cons_zero]
            refine tk 11 (by assumption) rfl (by kernel_rfl) (fun _ _ _ h => h) (fun V hV => by go_simp; try with_reducible rfl) ?_
            try simp only [Act.put, List.setIfInBounds_toArray, List.set_cons_zero, List.set_cons_succ, List.getElem_toArray, List.getElem_cons_succ, List.getElem_cons_zero]
            refine wpAnyH_ready (rs := [7, 12]) (by kernel_rfl) (by simp) ?_
            refine AllReadyH.cons (o := _) rfl (fun K hK => ?_) (AllReadyH.cons (o := _) rfl (fun K hK => ?_) (AllReadyH.nil))
            · have hx := HA0.out _ (HV8.out.keep B0.out)
              go_simp
              refine hK.out _ _ (HX8.out _ (B0.out.block _ HTX.out.1) (B0.out.block _ HTX.out.2)) (fun hH => ?_)
              clear hK K hx
              try simp only [Act.put, List.setIfInBounds_toArray, List.set_cons_zero, List.set_cons_succ, List.getElem_toArray, List.getElem_cons_succ, List.getElem_cons_zero]
              refine wpAnyH_ready (rs := [12]) (by kernel_rfl) (by simp) ?_
              refine AllReadyH.cons (o := _) rfl (fun K hK => ?_) AllReadyH.nil
              go_simp
              obtain ⟨V1, hV1⟩ : ∃ V1, V1 = V0.alloc (.cells #[.int .i64 (pb : Int), .float .f64 (qw q)] 112) := ⟨_, rfl⟩
              rw [← hV1]
              have B1 : Hid (Below W8.heap.size W8 V1) := Lib.hid (by rw [hV1]; exact gNx B0.out (gAl _ _))
              have HV1 : Hid (V1.heap[V0.heap.size]? = some (.cells (rdC (pb, q)).toArray 112 (0, 0))) := Lib.hid (by rw [hV1]; exact heap_alloc_new V0 _)
              clear hV1
              refine hK.out _ _ (HX8.out _ (B1.out.block _ HTX.out.1) (B1.out.block _ HTX.out.2)) (fun hH => ?_)
              clear hK K
              try simp only [Act.put, List.setIfInBounds_toArray, List.set_cons_zero, List.set_cons_succ, List.getElem_toArray, List.getElem_cons_succ, List.getElem_cons_zero]
              refine wpAnyH_ready (rs := [13]) (by kernel_rfl) (by simp) ?_
              refine AllReadyH.cons (o := _) rfl (fun K hK => ?_) AllReadyH.nil
              obtain ⟨v, v2, W2, n, a, c, hv, hvs, hrun, hout, hnet, hwr2, ⟨a2, c2, hv2⟩, hwr3⟩ := (HV8.out.keep B1.out).add (u := pa) (by rw [LENX.out]; exact HU8.out.1) (pb, q) (Nat.le_trans HU8.out.2.2 (Nat.le_trans HSZ.out B1.out.size)) HV1.out (by have := HDX.out pa; omega)
              have hcell := HA0.out _ (HV8.out.keep B1.out)
              obtain ⟨rfl⟩ : v = .slice a0 n0 c0 := net_val (HV8.out.keep B1.out) hv hcell
              subst hv2
              have HNET := Lib.hid hnet
              have HW2 := Lib.hid hwr2
              have HW3 := Lib.hid hwr3
              have HOUT := Lib.hid (hout.trans (HV8.out.keep B1.out).outer)
              have HVS := Lib.hid hv
              refine step_append_r rfl _ _ 110 110 rfl (.slice a0 n0 c0) (.slice (some ⟨V0.heap.size, 0, none⟩) 1 1) (by simp [Act.eval, Act.put]) (by simp [Act.eval, Act.put]) (hrun _) ?_
              refine hK.out _ _ (HX8.out _ (wr2_at HW3.out B1.out HTT.out.1 (by decide) (by decide)) (wr2_at HW3.out B1.out HTT.out.2 (by decide) (by decide))) (fun hH => ?_)
              clear hK K hv hvs hrun hout hnet hwr2 hwr3 hcell
              try simp only [Act.put, List.setIfInBounds_toArray, List.set_cons_zero, List.set_cons_succ, List.getElem_toArray, List.getElem_cons_succ, List.getElem_cons_zero]
              refine tk 14 (by assumption) rfl (by kernel_rfl) (fun _ _ _ h => h) (fun V hV => by go_simp; try with_reducible rfl) ?_
              try simp only [Act.put, List.setIfInBounds_toArray, List.set_cons_zero, List.set_cons_succ, List.getElem_toArray, List.getElem_cons_succ, List.getElem_cons_zero]
              refine wpAnyH_ready (rs := [15]) (by kernel_rfl) (by simp) ?_
              refine AllReadyH.cons (o := _) rfl (fun K hK => ?_) AllReadyH.nil
              have hoc := row_cell_of HOUT.out HVS.out
              have hof := frozen_of_row W2 rb pa _ _ HOUT.out
              go_simp
              refine hK.out _ _ (HX8.out _ (wr2_at HW2.out B1.out HTT.out.1 (by decide) (by decide)) (wr2_at HW2.out B1.out HTT.out.2 (by decide) (by decide))) (fun hH => ?_)
              clear hK K hoc hof
              try simp only [Act.put, List.setIfInBounds_toArray, List.set_cons_zero, List.set_cons_succ, List.getElem_toArray, List.getElem_cons_succ, List.getElem_cons_zero]
              refine wpAnyH_done (by kernel_rfl) ?_ _
              go_wp2_with fail
              go_meet
              exact ⟨rfl, _, HNET.out, (Wr2.of_below B1.out).trans HW2.out⟩
            · go_simp
              obtain ⟨V1, hV1⟩ : ∃ V1, V1 = V0.alloc (.cells #[.int .i64 (pb : Int), .float .f64 (qw q)] 112) := ⟨_, rfl⟩
              rw [← hV1]
              have B1 : Hid (Below W8.heap.size W8 V1) := Lib.hid (by rw [hV1]; exact gNx B0.out (gAl _ _))
              have HV1 : Hid (V1.heap[V0.heap.size]? = some (.cells (rdC (pb, q)).toArray 112 (0, 0))) := Lib.hid (by rw [hV1]; exact heap_alloc_new V0 _)
              clear hV1
              refine hK.out _ _ (HX8.out _ (B1.out.block _ HTX.out.1) (B1.out.block _ HTX.out.2)) (fun hH => ?_)
              clear hK K
              try simp only [Act.put, List.setIfInBounds_toArray, List.set_cons_zero, List.set_cons_succ, List.getElem_toArray, List.getElem_cons_succ, List.getElem_cons_zero]
              refine wpAnyH_ready (rs := [7]) (by kernel_rfl) (by simp) ?_
              refine AllReadyH.cons (o := _) rfl (fun K hK => ?_) AllReadyH.nil
              have hx := HA0.out _ (HV8.out.keep B1.out)
              go_simp
              refine hK.out _ _ (HX8.out _ (B1.out.block _ HTX.out.1) (B1.out.block _ HTX.out.2)) (fun hH => ?_)
              clear hK K hx
              try simp only [Act.put, List.setIfInBounds_toArray, List.set_cons_zero, List.set_cons_succ, List.getElem_toArray, List.getElem_cons_succ, List.getElem_cons_zero]
              refine wpAnyH_ready (rs := [13]) (by kernel_rfl) (by simp) ?_
              refine AllReadyH.cons (o := _) rfl (fun K hK => ?_) AllReadyH.nil
              obtain ⟨v, v2, W2, n, a, c, hv, hvs, hrun, hout, hnet, hwr2, ⟨a2, c2, hv2⟩, hwr3⟩ := (HV8.out.keep B1.out).add (u := pa) (by rw [LENX.out]; exact HU8.out.1) (pb, q) (Nat.le_trans HU8.out.2.2 (Nat.le_trans HSZ.out B1.out.size)) HV1.out (by have := HDX.out pa; omega)
              have hcell := HA0.out _ (HV8.out.keep B1.out)
              obtain ⟨rfl⟩ : v = .slice a0 n0 c0 := net_val (HV8.out.keep B1.out) hv hcell
              subst hv2
              have HNET := Lib.hid hnet
              have HW2 := Lib.hid hwr2
              have HW3 := Lib.hid hwr3
              have HOUT := Lib.hid (hout.trans (HV8.out.keep B1.out).outer)
              have HVS := Lib.hid hv
              refine step_append_r rfl _ _ 110 110 rfl (.slice a0 n0 c0) (.slice (some ⟨V0.heap.size, 0, none⟩) 1 1) (by simp [Act.eval, Act.put]) (by simp [Act.eval, Act.put]) (hrun _) ?_
              refine hK.out _ _ (HX8.out _ (wr2_at HW3.out B1.out HTT.out.1 (by decide) (by decide)) (wr2_at HW3.out B1.out HTT.out.2 (by decide) (by decide))) (fun hH => ?_)
              clear hK K hv hvs hrun hout hnet hwr2 hwr3 hcell
              try simp only [Act.put, List.setIfInBounds_toArray, List.set_cons_zero, List.set_cons_succ, List.getElem_toArray, List.getElem_cons_succ, List.getElem_cons_zero]
              refine tk 14 (by assumption) rfl (by kernel_rfl) (fun _ _ _ h => h) (fun V hV => by go_simp; try with_reducible rfl) ?_
              try simp only [Act.put, List.setIfInBounds_toArray, List.set_cons_zero, List.set_cons_succ, List.getElem_toArray, List.getElem_cons_succ, List.getElem_cons_zero]
              refine wpAnyH_ready (rs := [15]) (by kernel_rfl) (by simp) ?_
              refine AllReadyH.cons (o := _) rfl (fun K hK => ?_) AllReadyH.nil
              have hoc := row_cell_of HOUT.out HVS.out
              have hof := frozen_of_row W2 rb pa _ _ HOUT.out
              go_simp
              refine hK.out _ _ (HX8.out _ (wr2_at HW2.out B1.out HTT.out.1 (by decide) (by decide)) (wr2_at HW2.out B1.out HTT.out.2 (by decide) (by decide))) (fun hH => ?_)
              clear hK K hoc hof
              try simp only [Act.put, List.setIfInBounds_toArray, List.set_cons_zero, List.set_cons_succ, List.getElem_toArray, List.getElem_cons_succ, List.getElem_cons_zero]
              refine wpAnyH_done (by kernel_rfl) ?_ _
              go_wp2_with fail
              go_meet
              exact ⟨rfl, _, HNET.out, (Wr2.of_below B1.out).trans HW2.out⟩
          case rest =>
            obtain ⟨rfl, vs2, hn2, hw2⟩ := hcut
            clear HDX HTX HSZ LENX HTT
            have HV9 : Hid (NetW wc W3.heap.size rb vs2 (addR (netL G.nodes ((liveG G).links.take k)) pa (pb, q))) := Lib.hid hn2
            have HR9 : Hid (Wr2 W3.heap.size 112 110 wo wc) := Lib.hid (HR8.out.trans hw2)
            have HTT : Hid ((∃ cs, wc.heap[nb]? = some (.cells cs 63 (0, 0))) ∧ (∃ cs, wc.heap[ll]? = some (.cells cs 77 (0, 0)))) := Lib.hid (by obtain ⟨⟨cs, h1⟩, ⟨ds, h2⟩⟩ := HT8.out; exact ⟨⟨cs, hw2.kept h1 (by decide) (by decide)⟩, ⟨ds, hw2.kept h2 (by decide) (by decide)⟩⟩)
            have HX9 : Hid (∀ V, V.heap[nb]? = wc.heap[nb]? → V.heap[ll]? = wc.heap[ll]? → NetS V nb ll na G.nodes.length nc rb q) := Lib.hid (fun V h1 h2 => by
              obtain ⟨⟨cs, g1⟩, ⟨ds, g2⟩⟩ := HT8.out
              exact HX8.out V (h1.trans ((hw2.kept g1 (by decide) (by decide)).trans g1.symm)) (h2.trans ((hw2.kept g2 (by decide) (by decide)).trans g2.symm)))
            have LENX : Hid ((addR (netL G.nodes ((liveG G).links.take k)) pa (pb, q)).length = G.nodes.length) := Lib.hid (by rw [addR_len]; exact netL_len _ _)
            have HTX : Hid (nb < wc.heap.size ∧ ll < wc.heap.size) := Lib.hid ⟨by obtain ⟨cs, h⟩ := HTT.out.1; exact (Array.getElem?_eq_some_iff.1 h).1, by obtain ⟨cs, h⟩ := HTT.out.2; exact (Array.getElem?_eq_some_iff.1 h).1⟩
            have HSZ : Hid (W8.heap.size ≤ wc.heap.size) := Lib.hid hw2.size
            have HDX : Hid (∀ u, ((addR (netL G.nodes ((liveG G).links.take k)) pa (pb, q)).getD u []).length < 8194) := Lib.hid (fun u => by
              have h1 := HDG.out u
              have h2 := HDG.out pa
              rw [addR_at _ (by rw [netL_len]; exact HU8.out.1)]
              split
              · rw [List.length_append]; simp only [List.length_singleton]; omega
              · omega)
            clear hn2 hw2
            go_upto_region 11 with (fail)
            refine wp_region_held_drew (S := fun V => NetS V nb ll na G.nodes.length nc rb q) (by kernel_rfl) (HX9.out _ rfl rfl) (fun hH => ?_)
            have B0 : Hid (Below wc.heap.size wc wc.drew) := Lib.hid (Below.drew (Below.refl _ _))
            generalize wc.drew = V0 at *
            have hs0 : NetS V0 nb ll na G.nodes.length nc rb q := HX9.out V0 (B0.out.block _ HTX.out.1) (B0.out.block _ HTX.out.2)
            obtain ⟨a0, n0, c0, HA0⟩ : ∃ a0 n0 c0, Hid (∀ V, NetW V W3.heap.size rb vs2 (addR (netL G.nodes ((liveG G).links.take k)) pa (pb, q)) → V.cell? ⟨rb, pb, none⟩ = some (.slice a0 n0 c0)) := by
              obtain ⟨a0, n0, c0, h⟩ := net_cell HV9.out (u := pb) (by rw [LENX.out]; exact HU8.out.2.1)
              exact ⟨a0, n0, c0, Lib.hid h⟩
            refine tk 0 (by assumption) rfl (by kernel_rfl) (fun _ _ _ h => h) (fun V hV => by go_simp; try with_reducible rfl) ?_
            try simp only [Act.put, List.setIfInBounds_toArray, List.set_cons_zero, List.set_cons_succ, List.getElem_toArray, List.getElem_cons_succ, List.getElem_cons_zero]
            refine tk 1 (by assumption) rfl (by kernel_rfl) (fun _ _ _ h => h) (fun V hV => by obtain ⟨hx1, hx2⟩ := hV; go_simp; try with_reducible rfl) ?_
            try simp only [Act.put, List.setIfInBounds_toArray, List.set_cons_zero, List.set_cons_succ, List.getElem_toArray, List.getElem_cons_succ, List.getElem_cons_zero]
            refine tk 2 (by assumption) rfl (by kernel_rfl) (fun _ _ _ h => h) (fun V hV => by go_simp; try with_reducible rfl) ?_
            try simp only [Act.put, List.setIfInBounds_toArray, List.set_cons_zero, List.set_cons_succ, List.getElem_toArray, List.getElem_cons_succ, List.getElem_cons_zero]
            refine tk 3 (by assumption) rfl (by kernel_rfl) (fun _ _ _ h => h) (fun V hV => by go_simp; try with_reducible rfl) ?_
            try simp only [Act.put, List.setIfInBounds_toArray, List.set_cons_zero, List.set_cons_succ, List.getElem_toArray, List.getElem_cons_succ, List.getElem_cons_zero]
            refine tk 4 (by assumption) rfl (by kernel_rfl) (fun _ _ _ h => h) (fun V hV => by obtain ⟨hx1, hx2⟩ := hV; go_simp; try with_reducible rfl) ?_
            try simp only [Act.put, List.setIfInBounds_toArray, List.set_cons_zero, List.set_cons_succ, List.getElem_toArray, List.getElem_cons_succ, List.getElem_cons_zero]
            refine tk 5 (by assumption) rfl (by kernel_rfl) (fun _ _ _ h => h) (fun V hV => by go_simp; try with_reducible rfl) ?_
            try simp only [Act.put, List.setIfInBounds_toArray, List.set_cons_zero, List.set_cons_succ, List.getElem_toArray, List.getElem_cons_succ, List.getElem_cons_zero]
            refine tk 6 (by assumption) rfl (by kernel_rfl) (fun _ _ _ h => h) (fun V hV => by go_simp; try with_reducible rfl) ?_
            try simp only [Act.put, List.setIfInBounds_toArray, List.set_cons_zero, List.set_cons_succ, List.getElem_toArray, List.getElem_cons_succ, List.getElem_cons_zero]
            refine tk 8 (by assumption) rfl (by kernel_rfl) (fun _ _ _ h => h) (fun V hV => by go_simp; try with_reducible rfl) ?_
            try simp only [Act.put, List.setIfInBounds_toArray, List.set_cons_zero, List.set_cons_succ, List.getElem_toArray, List.getElem_cons_succ, List.getElem_cons_zero]
            refine tk 9 (by assumption) rfl (by kernel_rfl) (fun _ _ _ h => h) (fun V hV => by go_simp; try with_reducible rfl) ?_
            try simp only [Act.put, List.setIfInBounds_toArray, List.set_cons_zero, List.set_cons_succ, List.getElem_toArray, List.getElem_cons_succ, List.getElem_cons_zero]
            refine tk 10 (by assumption) rfl (by kernel_rfl) (fun _ _ _ h => h) (fun V hV => by obtain ⟨hx1, hx2⟩ := hV; go_simp; try with_reducible rfl) ?_
            try simp only [Act.put, List.setIfInBounds_toArray, List.set_cons_zero, List.set_cons_succ, List.getElem_toArray, List.getElem_cons_succ, List.getElem_cons_zero]
            refine tk 11 (by assumption) rfl (by kernel_rfl) (fun _ _ _ h => h) (fun V hV => by go_simp; try with_reducible rfl) ?_
            try simp only [Act.put, List.setIfInBounds_toArray, List.set_cons_zero, List.set_cons_succ, List.getElem_toArray, List.getElem_cons_succ, List.getElem_cons_zero]
            refine wpAnyH_ready (rs := [7, 12]) (by kernel_rfl) (by simp) ?_
            refine AllReadyH.cons (o := _) rfl (fun K hK => ?_) (AllReadyH.cons (o := _) rfl (fun K hK => ?_) (AllReadyH.nil))
            · have hx := HA0.out _ (HV9.out.keep B0.out)
              go_simp
              refine hK.out _ _ (HX9.out _ (B0.out.block _ HTX.out.1) (B0.out.block _ HTX.out.2)) (fun hH => ?_)
              clear hK K hx
              try simp only [Act.put, List.setIfInBounds_toArray, List.set_cons_zero, List.set_cons_succ, List.getElem_toArray, List.getElem_cons_succ, List.getElem_cons_zero]
              refine wpAnyH_ready (rs := [12]) (by kernel_rfl) (by simp) ?_
              refine AllReadyH.cons (o := _) rfl (fun K hK => ?_) AllReadyH.nil
              go_simp
              obtain ⟨V1, hV1⟩ : ∃ V1, V1 = V0.alloc (.cells #[.int .i64 (pa : Int), .float .f64 (qw q)] 112) := ⟨_, rfl⟩
              rw [← hV1]
              have B1 : Hid (Below wc.heap.size wc V1) := Lib.hid (by rw [hV1]; exact gNx B0.out (gAl _ _))
              have HV1 : Hid (V1.heap[V0.heap.size]? = some (.cells (rdC (pa, q)).toArray 112 (0, 0))) := Lib.hid (by rw [hV1]; exact heap_alloc_new V0 _)
              clear hV1
              refine hK.out _ _ (HX9.out _ (B1.out.block _ HTX.out.1) (B1.out.block _ HTX.out.2)) (fun hH => ?_)
              clear hK K
              try simp only [Act.put, List.setIfInBounds_toArray, List.set_cons_zero, List.set_cons_succ, List.getElem_toArray, List.getElem_cons_succ, List.getElem_cons_zero]
              refine wpAnyH_ready (rs := [13]) (by kernel_rfl) (by simp) ?_
              refine AllReadyH.cons (o := _) rfl (fun K hK => ?_) AllReadyH.nil
              obtain ⟨v, v2, W2, n, a, c, hv, hvs, hrun, hout, hnet, hwr2, ⟨a2, c2, hv2⟩, hwr3⟩ := (HV9.out.keep B1.out).add (u := pb) (by rw [LENX.out]; exact HU8.out.2.1) (pa, q) (Nat.le_trans HU8.out.2.2 (Nat.le_trans HSZ.out B1.out.size)) HV1.out (by have := HDX.out pb; omega)
              have hcell := HA0.out _ (HV9.out.keep B1.out)
              obtain ⟨rfl⟩ : v = .slice a0 n0 c0 := net_val (HV9.out.keep B1.out) hv hcell
              subst hv2
              have HNET := Lib.hid hnet
              have HW2 := Lib.hid hwr2
              have HW3 := Lib.hid hwr3
              have HOUT := Lib.hid (hout.trans (HV9.out.keep B1.out).outer)
              have HVS := Lib.hid hv
              refine step_append_r rfl _ _ 110 110 rfl (.slice a0 n0 c0) (.slice (some ⟨V0.heap.size, 0, none⟩) 1 1) (by simp [Act.eval, Act.put]) (by simp [Act.eval, Act.put]) (hrun _) ?_
              refine hK.out _ _ (HX9.out _ (wr2_at HW3.out B1.out HTT.out.1 (by decide) (by decide)) (wr2_at HW3.out B1.out HTT.out.2 (by decide) (by decide))) (fun hH => ?_)
              clear hK K hv hvs hrun hout hnet hwr2 hwr3 hcell
              try simp only [Act.put, List.setIfInBounds_toArray, List.set_cons_zero, List.set_cons_succ, List.getElem_toArray, List.getElem_cons_succ, List.getElem_cons_zero]
              refine tk 14 (by assumption) rfl (by kernel_rfl) (fun _ _ _ h => h) (fun V hV => by go_simp; try with_reducible rfl) ?_
              try simp only [Act.put, List.setIfInBounds_toArray, List.set_cons_zero, List.set_cons_succ, List.getElem_toArray, List.getElem_cons_succ, List.getElem_cons_zero]
              refine wpAnyH_ready (rs := [15]) (by kernel_rfl) (by simp) ?_
              refine AllReadyH.cons (o := _) rfl (fun K hK => ?_) AllReadyH.nil
              have hoc := row_cell_of HOUT.out HVS.out
              have hof := frozen_of_row W2 rb pb _ _ HOUT.out
              go_simp
              refine hK.out _ _ (HX9.out _ (wr2_at HW2.out B1.out HTT.out.1 (by decide) (by decide)) (wr2_at HW2.out B1.out HTT.out.2 (by decide) (by decide))) (fun hH => ?_)
              clear hK K hoc hof
              try simp only [Act.put, List.setIfInBounds_toArray, List.set_cons_zero, List.set_cons_succ, List.getElem_toArray, List.getElem_cons_succ, List.getElem_cons_zero]
              refine wpAnyH_done (by kernel_rfl) ?_ _
              go_wp2_with fail
              refine ⟨⟨k + 1, _, by simp, by omega, by rw [← HSN.out]; exact HNET.out, (HR9.out.trans (Wr2.of_below B1.out)).trans HW2.out⟩, ?_⟩
              simp [RowKit.intOf]; omega
            · go_simp
              obtain ⟨V1, hV1⟩ : ∃ V1, V1 = V0.alloc (.cells #[.int .i64 (pa : Int), .float .f64 (qw q)] 112) := ⟨_, rfl⟩
              rw [← hV1]
              have B1 : Hid (Below wc.heap.size wc V1) := Lib.hid (by rw [hV1]; exact gNx B0.out (gAl _ _))
              have HV1 : Hid (V1.heap[V0.heap.size]? = some (.cells (rdC (pa, q)).toArray 112 (0, 0))) := Lib.hid (by rw [hV1]; exact heap_alloc_new V0 _)
              clear hV1
              refine hK.out _ _ (HX9.out _ (B1.out.block _ HTX.out.1) (B1.out.block _ HTX.out.2)) (fun hH => ?_)
              clear hK K
              try simp only [Act.put, List.setIfInBounds_toArray, List.set_cons_zero, List.set_cons_succ, List.getElem_toArray, List.getElem_cons_succ, List.getElem_cons_zero]
              refine wpAnyH_ready (rs := [7]) (by kernel_rfl) (by simp) ?_
              refine AllReadyH.cons (o := _) rfl (fun K hK => ?_) AllReadyH.nil
              have hx := HA0.out _ (HV9.out.keep B1.out)
              go_simp
              refine hK.out _ _ (HX9.out _ (B1.out.block _ HTX.out.1) (B1.out.block _ HTX.out.2)) (fun hH => ?_)
              clear hK K hx
              try simp only [Act.put, List.setIfInBounds_toArray, List.set_cons_zero, List.set_cons_succ, List.getElem_toArray, List.getElem_cons_succ, List.getElem_cons_zero]
              refine wpAnyH_ready (rs := [13]) (by kernel_rfl) (by simp) ?_
              refine AllReadyH.cons (o := _) rfl (fun K hK => ?_) AllReadyH.nil
              obtain ⟨v, v2, W2, n, a, c, hv, hvs, hrun, hout, hnet, hwr2, ⟨a2, c2, hv2⟩, hwr3⟩ := (HV9.out.keep B1.out).add (u := pb) (by rw [LENX.out]; exact HU8.out.2.1) (pa, q) (Nat.le_trans HU8.out.2.2 (Nat.le_trans HSZ.out B1.out.size)) HV1.out (by have := HDX.out pb; omega)
              have hcell := HA0.out _ (HV9.out.keep B1.out)
              obtain ⟨rfl⟩ : v = .slice a0 n0 c0 := net_val (HV9.out.keep B1.out) hv hcell
              subst hv2
              have HNET := Lib.hid hnet
              have HW2 := Lib.hid hwr2
              have HW3 := Lib.hid hwr3
              have HOUT := Lib.hid (hout.trans (HV9.out.keep B1.out).outer)
              have HVS := Lib.hid hv
              refine step_append_r rfl _ _ 110 110 rfl (.slice a0 n0 c0) (.slice (some ⟨V0.heap.size, 0, none⟩) 1 1) (by simp [Act.eval, Act.put]) (by simp [Act.eval, Act.put]) (hrun _) ?_
              refine hK.out _ _ (HX9.out _ (wr2_at HW3.out B1.out HTT.out.1 (by decide) (by decide)) (wr2_at HW3.out B1.out HTT.out.2 (by decide) (by decide))) (fun hH => ?_)
              clear hK K hv hvs hrun hout hnet hwr2 hwr3 hcell
              try simp only [Act.put, List.setIfInBounds_toArray, List.set_cons_zero, List.set_cons_succ, List.getElem_toArray, List.getElem_cons_succ, List.getElem_cons_zero]
              refine tk 14 (by assumption) rfl (by kernel_rfl) (fun _ _ _ h => h) (fun V hV => by go_simp; try with_reducible rfl) ?_
              try simp only [Act.put, List.setIfInBounds_toArray, List.set_cons_zero, List.set_cons_succ, List.getElem_toArray, List.getElem_cons_succ, List.getElem_cons_zero]
              refine wpAnyH_ready (rs := [15]) (by kernel_rfl) (by simp) ?_
              refine AllReadyH.cons (o := _) rfl (fun K hK => ?_) AllReadyH.nil
              have hoc := row_cell_of HOUT.out HVS.out
              have hof := frozen_of_row W2 rb pb _ _ HOUT.out
              go_simp
              refine hK.out _ _ (HX9.out _ (wr2_at HW2.out B1.out HTT.out.1 (by decide) (by decide)) (wr2_at HW2.out B1.out HTT.out.2 (by decide) (by decide))) (fun hH => ?_)
              clear hK K hoc hof
              try simp only [Act.put, List.setIfInBounds_toArray, List.set_cons_zero, List.set_cons_succ, List.getElem_toArray, List.getElem_cons_succ, List.getElem_cons_zero]
              refine wpAnyH_done (by kernel_rfl) ?_ _
              go_wp2_with fail
              refine ⟨⟨k + 1, _, by simp, by omega, by rw [← HSN.out]; exact HNET.out, (HR9.out.trans (Wr2.of_below B1.out)).trans HW2.out⟩, ?_⟩
              simp [RowKit.intOf]; omega
        · have hnk : ¬ (k : Int) < ((liveG G).links.length : Int) := by omega
          have htk : (liveG G).links.take k = (liveG G).links := List.take_of_length_le (by omega)
          rw [htk] at HNW
          obtain ⟨m0, m1⟩ := HNC.out wr rfl
          have hres := HRS.out wr (by rw [HBE.out.block br (Nat.lt_of_lt_of_le HBR.out.1 HB3.out.size)]; exact HB3.out.block _ HBR.out.1)
          have x0 : wr.cell? ⟨br, 0, none⟩ = some (.slice none 0 0) := by rw [cell_of_row wr _ 0 _ _ (0, 0) hres]; rfl
          have x1 : wr.cell? ⟨br, 1, none⟩ = some (.slice none 0 0) := by rw [cell_of_row wr _ 1 _ _ (0, 0) hres]; rfl
          have x2 := frozen_of_row wr br 0 _ _ hres
          have x3 := frozen_of_row wr br 1 _ _ hres
          have HRES := Lib.hid hres
          clear hlt htk hres
          go_wp2_with fail
          have hq1 := heap_setCell_same wr br 0 _ _ (.slice na G.nodes.length nc) HRES.out
          have hq2 := heap_setCell_same _ br 1 _ _ (.slice (some ⟨rb, 0, none⟩) G.nodes.length G.nodes.length) hq1
          refine bodyPost_ret (results_cell2 Try.results25 _ _ br 0 [.slice na G.nodes.length nc, .slice (some ⟨rb, 0, none⟩) G.nodes.length G.nodes.length] _ rfl ?_ Try.underlying63 (by rfl) (by kernel_rfl)) rfl ?_
          · intro j v hj
            match j with
            | 0 => simp at hj; subst hj; rw [cell_of_row _ _ _ _ _ (0, 0) hq2]; rfl
            | 1 => simp at hj; subst hj; rw [cell_of_row _ _ _ _ _ (0, 0) hq2]; rfl
            | j + 2 => simp at hj
          · have hbr : rb ≠ br := by have := HNB.out; have := HBR.out; have := HB3.out.size; omega
            have hnl := netL_len G.nodes (liveG G).links
            have hrd := (net_set (net_set HNW.out HRES.out (o := 0) (.slice na G.nodes.length nc)) hq1 (o := 1) (.slice (some ⟨rb, 0, none⟩) G.nodes.length G.nodes.length)).reads G.nodes.length
            rw [hnl] at hrd
            refine Or.inr ⟨HZ.out, .slice (some ⟨rb, 0, none⟩) G.nodes.length G.nodes.length, rfl, rfl, ?_, ((HWB.out wr (gNx HB3.out HBE.out)).setCell (p := ⟨br, 0, none⟩) HBR.out.2.1 _).setCell (p := ⟨br, 1, none⟩) HBR.out.2.1 _⟩
            exact hrd.low (by have := HB3.out.size; have := HBR.out; omega)
end Go.Proofs.Ytomcnaghdfhkkaa
