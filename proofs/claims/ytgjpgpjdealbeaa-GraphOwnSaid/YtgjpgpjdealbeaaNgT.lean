/- Graphs: graph.Play. -/
import Derived.Test.YtgjpgpjdealbeaaNgS
import Derived.Test.YtgjpgpjdealbeaaNqD
namespace Go.Proofs.Ytgjpgpjdealbeaa
open Go.RowKit Go.Lib Go.Fq Go.Iq Go.Nq Go.Ow
set_option linter.unusedVariables false
set_option linter.unusedSimpArgs false
set_option maxRecDepth 100000

theorem results_cell3 {fn : Func} {t u v : Tmp} {ty : TypeId} (h : fn.results = #[.cell t ty, .tmp u, .tmp v]) (tmps : Array Value) (w : World) (b o : Nat) (cs : List Value) (d : TypeDesc) (hp : tmps.getD t undef = .pointer (some ⟨b, o, none⟩)) (hc : w.rangeAt b o cs)
    (hu : Try.prog.underlying ty = some d) (hd : d.isRow = true) (hi : (Try.prog.info? ty).map (·.size) = some cs.length) : (results fn tmps).run Try.prog w = .ok (.tuple #[.agg cs.toArray, tmps.getD u undef, tmps.getD v undef]) w := by
  have e := run_loadVar_mid (P := Try.prog) w b o ty cs d hc hu hd hi
  have hp' : tmps[t]?.getD undef = .pointer (some ⟨b, o, none⟩) := by simpa using hp
  simp [results, h, hp', asAddr, e, Sem.run_bind, Sem.run_pure]
/-- A graph that a call tells: its rows are the call's own. -/
structure GrV (w : World) (base : Nat) (vn vl : Value) (G : Gr) : Prop where
  nodes : Own w base 52 3 vn G.nodes.length (ndRow G.nodes)
  links : Own w base 54 4 vl G.links.length (lkRow G.links)
  wts : ∀ y ∈ G.links, y.w < 2 ^ 64
theorem GrAt.v {w : World} {base bg : Nat} {vn vl : Value} {G : Gr} (h : GrAt w base bg vn vl G) : GrV w base vn vl G := ⟨h.nodes, h.links, h.wts⟩
theorem GrV.below {w w' : World} {base : Nat} {vn vl : Value} {G : Gr} (h : GrV w base vn vl G) (hb : Below w.heap.size w w') : GrV w' base vn vl G := ⟨h.nodes.below hb, h.links.below hb, h.wts⟩
theorem GrV.mono {w : World} {base b2 : Nat} {vn vl : Value} {G : Gr} (h : GrV w base vn vl G) (hb : b2 ≤ base) : GrV w b2 vn vl G := ⟨h.nodes.mono hb, h.links.mono hb, h.wts⟩
theorem grv_0 (w : World) (base : Nat) : GrV w base (.slice none 0 0) (.slice none 0 0) gr0 := ⟨Or.inl ⟨rfl, rfl, none, rfl⟩, Or.inl ⟨rfl, rfl, none, rfl⟩, fun y hy => by cases hy⟩
/-- Rows stay where a block of a graph's struct is written. -/
theorem GrV.set {w : World} {base b o : Nat} {vn vl u : Value} {G : Gr} {cs : Array Value} (h : GrV w base vn vl G) (hg : w.heap[b]? = some (.cells cs 25 (0, 0))) : GrV (w.setCell ⟨b, o, none⟩ u) base vn vl G :=
  ⟨h.nodes.keep (fun j cur hj => Below.heap_setCell _ _ _ _ (heap_ne hj hg (by decide))), h.links.keep (fun j cur hj => Below.heap_setCell _ _ _ _ (heap_ne hj hg (by decide))), h.wts⟩
/-- What a []api.Change holds. -/
structure ChAt (w : World) (b o : Nat) (c : Ch) : Prop where
  c0 : w.cell? ⟨b, o, none⟩ = some (.int .i64 c.kind)
  c1 : w.cell? ⟨b, o + 1, none⟩ = some (.int .i64 c.a)
  c2 : w.cell? ⟨b, o + 2, none⟩ = some (.int .i64 c.b)
  c3 : w.cell? ⟨b, o + 3, none⟩ = some (.float .f64 c.w)
theorem ChAt.kept {w w' : World} {b o : Nat} {n : Ch} (h : ChAt w b o n) (k : w'.heap[b]? = w.heap[b]?) : ChAt w' b o n :=
  ⟨(World.cell?_of_block k).trans h.c0, (World.cell?_of_block k).trans h.c1, (World.cell?_of_block k).trans h.c2, (World.cell?_of_block k).trans h.c3⟩
def ChsIn (w : World) (B : Nat) (l : List Ch) (a : Option Addr) : Prop := l = [] ∨ ∃ b o, a = some ⟨b, o, none⟩ ∧ b < B ∧ ∀ k (h : k < l.length), ChAt w b (o + k * 4) l[k]
theorem ChsIn.kept {w w' : World} {B B' : Nat} {l : List Ch} {a : Option Addr} (h : ChsIn w B l a) (k : ∀ i, i < B → w'.heap[i]? = w.heap[i]?) (hB : B ≤ B') : ChsIn w' B' l a := by
  rcases h with h | ⟨b, o, ha, hb, hc⟩
  · exact Or.inl h
  · exact Or.inr ⟨b, o, ha, Nat.lt_of_lt_of_le hb hB, fun i hi => (hc i hi).kept (k b hb)⟩
theorem ChsIn.at {w : World} {B : Nat} {l : List Ch} {a : Option Addr} (h : ChsIn w B l a) (k : Nat) (hk : k < l.length) : ∃ b o, a = some ⟨b, o, none⟩ ∧ b < B ∧ ∀ k (h : k < l.length), ChAt w b (o + k * 4) l[k] := by
  rcases h with h | h
  · subst h; simp at hk
  · exact h
/-- What Play tells, in memory. -/
def PlayEnds (w : World) (r : Gr × Nat × Int) (e : Ending) (w' : World) : Prop := ∃ vn vl, e = .returned (.tuple #[.agg #[vn, vl], .int .i64 r.2.1, .int .i64 r.2.2]) ∧ GrV w' w.heap.size vn vl r.1 ∧ Below w.heap.size w w'
set_option maxHeartbeats 4000000 in
theorem gPlay_any (l : List Ch) (a : Option Addr) (c : Nat) (w : World) (hin : ChsIn w w.heap.size l a) (hq : ∀ x ∈ l, x.w < 2 ^ 64) (hn : l.length < 4611686018427387904) :
    Calls Try.prog 17 #[.slice a l.length c] w fun e w' => PlayEnds w (playA l) e w' := by
  have hst := g_storeL
  have HIN := Lib.hid hin
  have HQ := Lib.hid hq
  clear hin hq
  by_cases hmany : 65536 < l.length
  · have hmi : (65536 : Int) < (l.length : Int) := by omega
    have HP := Lib.hid (playA_many hmany)
    rw [HP.out]
    clear hmany HP
    go_enter Try.func17, Try.ntmps17
    go_wp2_with fail
    refine bodyPost_ret (results_cell3 Try.results17 _ _ w.heap.size 0 [.slice none 0 0, .slice none 0 0] _ rfl ?_ Try.underlying25 (by rfl) (by kernel_rfl)) rfl ?_
    · intro j v hj
      match j with
      | 0 => simp at hj; subst hj; simp [go_sem]
      | 1 => simp at hj; subst hj; simp [go_sem]
      | j + 2 => simp at hj
    · exact ⟨_, _, rfl, grv_0 _ _, gAl _ _⟩
  · have hmi : ¬ (65536 : Int) < (l.length : Int) := by omega
    have HP := Lib.hid (playA_few hmany)
    rw [HP.out]
    clear hmany HP
    have HN := Lib.hid hn
    obtain ⟨W1, hW1⟩ : ∃ W1, W1 = w.alloc (.cells #[.slice none 0 0, .slice none 0 0] 25) := ⟨_, rfl⟩
    obtain ⟨W2, hW2⟩ : ∃ W2, W2 = W1.alloc (.cells #[.slice none 0 0, .slice none 0 0] 25) := ⟨_, rfl⟩
    have hb1 : Below w.heap.size w W1 := by rw [hW1]; exact gAl _ _
    have hs1 : W1.heap.size = w.heap.size + 1 := by rw [hW1]; simp
    have hr1 : W1.heap[w.heap.size]? = some (.cells #[.slice none 0 0, .slice none 0 0] 25 (0, 0)) := by rw [hW1]; exact heap_alloc_new w _
    have hb2 : Below W1.heap.size W1 W2 := by rw [hW2]; exact gAl _ _
    have hg2 : W2.heap[W1.heap.size]? = some (.cells #[.slice none 0 0, .slice none 0 0] 25 (0, 0)) := by rw [hW2]; exact heap_alloc_new W1 _
    have hga : GrAt W2 W1.heap.size W1.heap.size (.slice none 0 0) (.slice none 0 0) gr0 := ⟨Nat.le_refl _, hg2, (grv_0 _ _).nodes, (grv_0 _ _).links, (grv_0 W2 0).wts⟩
    have HB2 := Lib.hid hb2
    have HGA := Lib.hid hga
    have HR1 : Hid (∀ V, Below W1.heap.size W1 V → V.heap[w.heap.size]? = some (.cells #[.slice none 0 0, .slice none 0 0] 25 (0, 0))) := Lib.hid (fun V hV => (hV.block _ (by omega)).trans hr1)
    have HWB : Hid (∀ V, Below W1.heap.size W1 V → Below w.heap.size w V) := Lib.hid (fun V hV => gNx hb1 hV)
    have HIV : Hid (∀ V, Below W1.heap.size W1 V → ChsIn V V.heap.size l a) := Lib.hid (fun V hV => HIN.out.kept (fun i hi => (gNx hb1 hV).block i hi) (gNx hb1 hV).size)
    have HBA : Hid (w.heap.size ≤ W1.heap.size) := Lib.hid (by omega)
    clear hb1 hr1 hb2 hg2 hga HIN
    go_enter Try.func17, Try.ntmps17
    go_upto_region 1 with (fail)
    rw [← hW1]
    clear hW1 hs1
    go_upto_region 4 with (fail)
    rw [← hW2]
    clear hW2
    go_wp2_with fail
    go_loopw [15] (fun v wr => ∃ (k : Nat) (vn vl : Value) (G : Gr), v = .int .i64 (k : Int) ∧ k ≤ l.length ∧ GrAt wr W1.heap.size W1.heap.size vn vl G ∧ Below W1.heap.size W1 wr ∧ checkG G = 0 ∧ playG gr0 0 l = playG G k (l.drop k)) (fun v _ => l.length - (RowKit.intOf v).toNat)
    case atStart => exact ⟨0, _, _, _, rfl, by omega, HGA.out, HB2.out, check_gr0, rfl⟩
    case round =>
      obtain ⟨k, vn, vl, G, rfl, hk, hga, hbel, hcg, hpl⟩ := hrel
      have HG := Lib.hid hga
      have HB := Lib.hid hbel
      have HCG := Lib.hid hcg
      have HPL := Lib.hid hpl
      clear hcg hpl
      by_cases hlt : k < l.length
      · have hlti : (k : Int) < (l.length : Int) := by omega
        have hk0 : (0 : Int) ≤ (k : Int) := by omega
        have hkw : IntKind.i64.wrap ((k : Int) + 1) = (k : Int) + 1 := by rw [IntKind.wrap_i64]; have := HN.out; omega
        obtain ⟨b, o, rfl, hb, hc⟩ := (HIV.out wr hbel).at k hlt
        obtain ⟨c0, c1, c2, c3⟩ := hc k hlt
        have HQK := Lib.hid (HQ.out _ (List.getElem_mem hlt))
        have HST := Lib.hid (play_stop hlt G)
        have HGO := Lib.hid (play_go hlt G)
        clear hc hga hbel
        generalize l[k] = ch at *
        obtain ⟨W3, hW3⟩ : ∃ W3, W3 = wr.alloc (.cells #[.int .i64 ch.kind, .int .i64 ch.a, .int .i64 ch.b, .float .f64 ch.w] 33) := ⟨_, rfl⟩
        have hb3 : Below wr.heap.size wr W3 := by rw [hW3]; exact gAl _ _
        have hcb : W3.heap[wr.heap.size]? = some (.cells #[.int .i64 ch.kind, .int .i64 ch.a, .int .i64 ch.b, .float .f64 ch.w] 33 (0, 0)) := by rw [hW3]; exact heap_alloc_new wr _
        go_upto_region 7 with (fail)
        rw [← hW3]
        clear hW3 c0 c1 c2 c3
        have HB3 := Lib.hid hb3
        clear hb3
        have c0 : W3.cell? ⟨wr.heap.size, 0, none⟩ = some (.int .i64 ch.kind) := by rw [cell_of_row W3 _ 0 _ _ (0, 0) hcb]; rfl
        have c1 : W3.cell? ⟨wr.heap.size, 1, none⟩ = some (.int .i64 ch.a) := by rw [cell_of_row W3 _ 1 _ _ (0, 0) hcb]; rfl
        have c2 : W3.cell? ⟨wr.heap.size, 2, none⟩ = some (.int .i64 ch.b) := by rw [cell_of_row W3 _ 2 _ _ (0, 0) hcb]; rfl
        have c3 : W3.cell? ⟨wr.heap.size, 3, none⟩ = some (.float .f64 ch.w) := by rw [cell_of_row W3 _ 3 _ _ (0, 0) hcb]; rfl
        clear hcb
        go_wp2_with fail
        refine (gChange_any G ch.kind ch.a ch.b ch.w W1.heap.size W1.heap.size vn vl W3 (HG.out.below HB3.out) HCG.out HQK.out).mono ?_
        rintro e W4 ⟨rfl, ⟨vn2, vl2, h3⟩, h4⟩
        have B4 := Lib.hid ((HB.out.trans (HB3.out.mono (Nat.le_of_lt HG.out.lt))).trans h4)
        clear h4 c0 c1 c2 c3
        have he : (⟨ch.kind, ch.a, ch.b, ch.w⟩ : Ch) = ch := rfl
        rw [he] at h3 ⊢
        clear he
        by_cases hz : changeE G ch = 0
        · have HX := Lib.hid (HGO.out hz)
          have HCK := Lib.hid (change_keeps HCG.out hz)
          rw [hz] at h3 ⊢
          rw [aft_0] at h3
          have HG3 := Lib.hid h3
          clear h3 hz HST HGO
          go_wp2_with fail
          refine ⟨⟨k + 1, vn2, vl2, _, by simp, by omega, HG3.out, B4.out, HCK.out, HPL.out.trans HX.out⟩, ?_⟩
          simp [RowKit.intOf]; omega
        · have HX := Lib.hid (HST.out hz)
          rw [aft_ne hz] at h3
          have hz2 : (changeE G ch != 0) = true := by simpa using hz
          have HG3 := Lib.hid h3
          obtain ⟨d0, d1, -, -⟩ := h3.cells
          obtain ⟨an, cn, rfl⟩ := h3.nodes.slice
          obtain ⟨al, cl, rfl⟩ := h3.links.slice
          have hres := HR1.out W4 B4.out
          have r0 : W4.cell? ⟨w.heap.size, 0, none⟩ = some (.slice none 0 0) := by rw [cell_of_row W4 _ 0 _ _ (0, 0) hres]; rfl
          have r1 : W4.cell? ⟨w.heap.size, 1, none⟩ = some (.slice none 0 0) := by rw [cell_of_row W4 _ 1 _ _ (0, 0) hres]; rfl
          have r2 := frozen_of_row W4 _ 0 _ _ hres
          have r3 := frozen_of_row W4 _ 1 _ _ hres
          have HRES := Lib.hid hres
          clear h3 hz HST HGO hres
          generalize changeE G ch = ce at *
          go_wp2_with fail
          have hq1 := heap_setCell_same W4 w.heap.size 0 _ _ (.slice an G.nodes.length cn) HRES.out
          have hq2 := heap_setCell_same _ w.heap.size 1 _ _ (.slice al G.links.length cl) hq1
          refine bodyPost_ret (results_cell3 Try.results17 _ _ w.heap.size 0 [.slice an G.nodes.length cn, .slice al G.links.length cl] _ rfl ?_ Try.underlying25 (by rfl) (by kernel_rfl)) rfl ?_
          · intro j v hj
            match j with
            | 0 => simp at hj; subst hj; rw [cell_of_row _ _ _ _ _ (0, 0) hq2]; rfl
            | 1 => simp at hj; subst hj; rw [cell_of_row _ _ _ _ _ (0, 0) hq2]; rfl
            | j + 2 => simp at hj
          · rw [HPL.out, HX.out]
            exact ⟨_, _, rfl, (((HG3.out.v.mono HBA.out).set HRES.out).set hq1), ((HWB.out W4 B4.out).setCell (Nat.le_refl _) _).setCell (Nat.le_refl _) _⟩
      · have hlti : ¬ (k : Int) < (l.length : Int) := by omega
        have HX := Lib.hid (play_end (l := l) (by omega : l.length ≤ k) G)
        obtain ⟨d0, d1, -, -⟩ := hga.cells
        obtain ⟨an, cn, rfl⟩ := hga.nodes.slice
        obtain ⟨al, cl, rfl⟩ := hga.links.slice
        have hres := HR1.out wr hbel
        have r0 : wr.cell? ⟨w.heap.size, 0, none⟩ = some (.slice none 0 0) := by rw [cell_of_row wr _ 0 _ _ (0, 0) hres]; rfl
        have r1 : wr.cell? ⟨w.heap.size, 1, none⟩ = some (.slice none 0 0) := by rw [cell_of_row wr _ 1 _ _ (0, 0) hres]; rfl
        have r2 := frozen_of_row wr _ 0 _ _ hres
        have r3 := frozen_of_row wr _ 1 _ _ hres
        have HRES := Lib.hid hres
        clear hga hbel hlt hres
        go_wp2_with fail
        have hq1 := heap_setCell_same wr w.heap.size 0 _ _ (.slice an G.nodes.length cn) HRES.out
        have hq2 := heap_setCell_same _ w.heap.size 1 _ _ (.slice al G.links.length cl) hq1
        refine bodyPost_ret (results_cell3 Try.results17 _ _ w.heap.size 0 [.slice an G.nodes.length cn, .slice al G.links.length cl] _ rfl ?_ Try.underlying25 (by rfl) (by kernel_rfl)) rfl ?_
        · intro j v hj
          match j with
          | 0 => simp at hj; subst hj; rw [cell_of_row _ _ _ _ _ (0, 0) hq2]; rfl
          | 1 => simp at hj; subst hj; rw [cell_of_row _ _ _ _ _ (0, 0) hq2]; rfl
          | j + 2 => simp at hj
        · rw [HPL.out, HX.out]
          exact ⟨_, _, rfl, (((HG.out.v.mono HBA.out).set HRES.out).set hq1), ((HWB.out wr HB.out).setCell (Nat.le_refl _) _).setCell (Nat.le_refl _) _⟩
end Go.Proofs.Ytgjpgpjdealbeaa
