/- Graphs: the law of what is one's own. The law GraphOwn is proved: for every input the call returns true, and each argument reads afterwards as it read before. No condition. -/
import Derived.Test.YtgjpgpjdealbeaaNhP
import Derived.Test.YtgjpgpjdealbeaaNhS
import Derived.Test.YtgjpgpjdealbeaaRows
import Derived.WalkKit
import Derived.ProofKit
import Derived.OpenShut
import Derived.ShutString
import Derived.ChangeOld
import Derived.Below
import Derived.SizedLaws
import Derived.Laws.Cover2
import Derived.Test.YtgjpgpjdealbeaaNgY
section
namespace Go.Proofs.Ytgjpgpjdealbeaa
open Go.RowKit Go.Lib Go.Fq Go.Iq Go.Nq Go.Ow
set_option linter.unusedVariables false
set_option linter.unusedSimpArgs false
set_option maxRecDepth 100000

theorem own_mono {w : World} {base bg b2 : Nat} {vn vl : Value} {G : Gr} (h : GrAt w base bg vn vl G) (hb : b2 ≤ base) : GrAt w b2 bg vn vl G := ⟨Nat.le_trans hb h.hb, h.gb, h.nodes.mono hb, h.links.mono hb, h.wts⟩
theorem grat_box {V : World} {base : Nat} {vn vl : Value} {G : Gr} (h : GrV V base vn vl G) (hb : base ≤ V.heap.size) : GrAt (V.alloc (.cells #[vn, vl] 25)) base V.heap.size vn vl G :=
  ⟨hb, heap_alloc_new V _, h.nodes.below (gAl _ _), h.links.below (gAl _ _), h.wts⟩
theorem GrV.parts {w : World} {base : Nat} {vn vl : Value} {G : Gr} (h : GrV w base vn vl G) : ∃ na nc la lc, vn = .slice na G.nodes.length nc ∧ vl = .slice la G.links.length lc := by
  obtain ⟨a, c, e⟩ := h.nodes.slice
  obtain ⟨b, d, f⟩ := h.links.slice
  exact ⟨a, c, b, d, e, f⟩
set_option maxHeartbeats 16000000 in
theorem law_own (G : Gr) (na : Option Addr) (nc : Nat) (la : Option Addr) (lc : Nat) (kd a b : Int) (q : Nat) (w : World) (hin : GrIn w G na la) (hq : q < 2 ^ 64) :
    Calls Try.prog 9 #[.agg #[.slice na G.nodes.length nc, .slice la G.links.length lc], .agg #[.int .i64 kd, .int .i64 a, .int .i64 b, .float .f64 q]] w fun e w' => e = .returned (.bool true) ∧ Below w.heap.size w w' := by
  have hst := g_storeL
  obtain ⟨W1, hW1⟩ : ∃ W1, W1 = w.alloc (.cells #[.slice na G.nodes.length nc, .slice la G.links.length lc] 25) := ⟨_, rfl⟩
  obtain ⟨W2, hW2⟩ : ∃ W2, W2 = W1.alloc (.cells #[.int .i64 kd, .int .i64 a, .int .i64 b, .float .f64 q] 33) := ⟨_, rfl⟩
  have b1 : Below w.heap.size w W1 := by rw [hW1]; exact gAl _ _
  have b2 : Below W1.heap.size W1 W2 := by rw [hW2]; exact gAl _ _
  have s1 : W1.heap.size = w.heap.size + 1 := by rw [hW1]; simp
  have s2 : W2.heap.size = W1.heap.size + 1 := by rw [hW2]; simp
  have r1 : W1.heap[w.heap.size]? = some (.cells #[.slice na G.nodes.length nc, .slice la G.links.length lc] 25 (0, 0)) := by rw [hW1]; exact heap_alloc_new w _
  have r2 : W2.heap[W1.heap.size]? = some (.cells #[.int .i64 kd, .int .i64 a, .int .i64 b, .float .f64 q] 33 (0, 0)) := by rw [hW2]; exact heap_alloc_new W1 _
  have hb2 : Below w.heap.size w W2 := gNx b1 b2
  have q1 : W2.heap[w.heap.size]? = some (.cells #[.slice na G.nodes.length nc, .slice la G.links.length lc] 25 (0, 0)) := (b2.block _ (by omega)).trans r1
  obtain ⟨bc, hbc⟩ : ∃ bc, bc = W1.heap.size := ⟨_, rfl⟩
  have HKG : Hid (∀ V, Below W2.heap.size W2 V → V.cell? ⟨w.heap.size, 0, none⟩ = some (.slice na G.nodes.length nc) ∧ V.cell? ⟨w.heap.size, 1, none⟩ = some (.slice la G.links.length lc)) := Lib.hid (fun V hV => by
    have := (hV.block w.heap.size (by omega)).trans q1
    exact ⟨by rw [cell_of_row V _ 0 _ _ (0, 0) this]; rfl, by rw [cell_of_row V _ 1 _ _ (0, 0) this]; rfl⟩)
  have HKC : Hid (∀ V, Below W2.heap.size W2 V → V.heap[bc]? = some (.cells #[.int .i64 kd, .int .i64 a, .int .i64 b, .float .f64 q] 33 (0, 0))) := Lib.hid (fun V hV => by rw [hbc]; exact (hV.block W1.heap.size (by omega)).trans r2)
  have HIN : Hid (∀ V, Below W2.heap.size W2 V → GrIn V G na la) := Lib.hid (fun V hV => hin.below (gNx hb2 hV))
  have HB2 := Lib.hid hb2
  have HQ := Lib.hid hin.wts
  have HQQ := Lib.hid hq
  have HSZ : Hid (G.nodes.length * 16 ≤ 140737488351232 ∧ G.links.length * 32 ≤ 140737488351232) := Lib.hid ⟨hin.n1, hin.l1⟩
  obtain ⟨XA, hXA⟩ : ∃ X, X = applyG G ⟨kd, a, b, q⟩ := ⟨_, rfl⟩
  obtain ⟨eA, heA⟩ : ∃ X, X = applyE G ⟨kd, a, b, q⟩ := ⟨_, rfl⟩
  obtain ⟨Z, hZ⟩ : ∃ X, X = liveA G := ⟨_, rfl⟩
  obtain ⟨NB, hNB⟩ : ∃ X, X = nbL G a := ⟨_, rfl⟩
  have HXL : Hid (XA.nodes.length ≤ 256 ∧ XA.links.length ≤ 4096) := Lib.hid (by rw [hXA]; exact apply_len _ _)
  have HLN : Hid (XA.nodes.length < 4611686018427387904 ∧ XA.links.length < 4611686018427387904 ∧ Z.nodes.length < 4611686018427387904) := Lib.hid (by have := liveA_len G; have := HSZ.out; have := HXL.out; rw [hZ]; omega)
  have HLB : Hid (NB.length < 4611686018427387904) := Lib.hid (by rw [hNB]; have := nbL_len G a; have := HSZ.out; omega)
  have HXA := Lib.hid hXA
  have HEA := Lib.hid heA
  have HLZ := Lib.hid hZ
  have HNB := Lib.hid hNB
  have z0 : (eA != eA) = false := by simp
  clear hin hq b1 b2 r1 r2 q1 hb2 s2 hXA heA hZ hNB
  go_enter Try.func9, Try.ntmps9
  go_upto_region 1 with (fail)
  rw [← hW1, ← hW2, ← s1, ← hbc]
  clear hW1 hW2 s1 hbc
  obtain ⟨g0, g1⟩ := HKG.out W2 (Below.refl _ _)
  go_wp2_with fail
  refine (rCopy_any G na la nc lc W2 (HIN.out _ (Below.refl _ _)).nodes (HIN.out _ (Below.refl _ _)).links HQ.out (by have := HSZ.out; omega) (by have := HSZ.out; omega)).mono ?_
  rintro e V3 ⟨vn, vl, rfl, hv, hb⟩
  obtain ⟨ni, ci, li, di, rfl, rfl, hini⟩ := hv.gin HSZ.out.1 HSZ.out.2
  obtain ⟨W4, hW4⟩ : ∃ W, W = V3.alloc (.cells #[.slice ni G.nodes.length ci, .slice li G.links.length di] 25) := ⟨_, rfl⟩
  obtain ⟨bi, hbi⟩ : ∃ b, b = V3.heap.size := ⟨_, rfl⟩
  have b4 : Below V3.heap.size V3 W4 := by rw [hW4]; exact gAl _ _
  have s4 : bi < W4.heap.size := by rw [hW4, hbi]; simp
  have r4 : W4.heap[bi]? = some (.cells #[.slice ni G.nodes.length ci, .slice li G.links.length di] 25 (0, 0)) := by rw [hW4, hbi]; exact heap_alloc_new V3 _
  have hw24 : Below W2.heap.size W2 W4 := gNx hb b4
  have HAT4 : Hid (∀ V, Below W4.heap.size W4 V → (V.cell? ⟨bi, 0, none⟩ = some (.slice ni G.nodes.length ci) ∧ V.cell? ⟨bi, 1, none⟩ = some (.slice li G.links.length di)) ∧ GrIn V G ni li ∧ (V.cell? ⟨w.heap.size, 0, none⟩ = some (.slice na G.nodes.length nc) ∧ V.cell? ⟨w.heap.size, 1, none⟩ = some (.slice la G.links.length lc)) ∧ GrIn V G na la ∧ (V.cell? ⟨bc, 0, none⟩ = some (.int .i64 kd) ∧ V.cell? ⟨bc, 1, none⟩ = some (.int .i64 a) ∧ V.cell? ⟨bc, 2, none⟩ = some (.int .i64 b) ∧ V.cell? ⟨bc, 3, none⟩ = some (.float .f64 q))) := Lib.hid (fun V hV => by
    have hh := (hV.block bi s4).trans r4
    have h2 := gNx hw24 hV
    exact ⟨⟨(cells_two hh).1, (cells_two hh).2.1⟩, hini.below (gNx b4 hV), HKG.out V h2, HIN.out V h2, cells_four (HKC.out V h2)⟩)
  have HB4 := Lib.hid (gNx HB2.out hw24)
  go_upto_region 2 with (fail)
  rw [← hW4, ← hbi]
  clear hW4 hbi b4 s4 r4 hw24 hv hb hini g0 g1 HKG HKC HIN
  go_wp2_with fail
  go_loopw [6] (fun v wo => ∃ kr : Nat, v = .int .i64 (kr : Int) ∧ kr ≤ 2 ∧ Below W4.heap.size W4 wo) (fun v _ => 2 - (RowKit.intOf v).toNat)
  case atStart => exact ⟨0, rfl, by omega, Below.refl _ _⟩
  case round =>
    rename World => wo
    obtain ⟨kr, rfl, hkr, hbel⟩ := hrel
    have HBR := Lib.hid hbel
    have HAT : Hid (∀ V, Below wo.heap.size wo V → (V.cell? ⟨bi, 0, none⟩ = some (.slice ni G.nodes.length ci) ∧ V.cell? ⟨bi, 1, none⟩ = some (.slice li G.links.length di)) ∧ GrIn V G ni li ∧ (V.cell? ⟨w.heap.size, 0, none⟩ = some (.slice na G.nodes.length nc) ∧ V.cell? ⟨w.heap.size, 1, none⟩ = some (.slice la G.links.length lc)) ∧ GrIn V G na la ∧ (V.cell? ⟨bc, 0, none⟩ = some (.int .i64 kd) ∧ V.cell? ⟨bc, 1, none⟩ = some (.int .i64 a) ∧ V.cell? ⟨bc, 2, none⟩ = some (.int .i64 b) ∧ V.cell? ⟨bc, 3, none⟩ = some (.float .f64 q))) := Lib.hid (fun V hV => HAT4.out V (gNx hbel hV))
    clear hbel
    by_cases hlt : kr < 2
    · have hlti : (kr : Int) < 2 := by omega
      have hkw : IntKind.i64.wrap ((kr : Int) + 1) = (kr : Int) + 1 := by rw [IntKind.wrap_i64]; omega
      obtain ⟨⟨i0, i1⟩, hgi, -, -, ⟨c0, c1, c2, c3⟩⟩ := HAT.out wo (Below.refl _ _)
      have HGI := Lib.hid hgi
      clear hgi
      go_wp2_with fail
      refine (gApply_any G ni ci li di kd a b q wo HGI.out HQQ.out).mono ?_
      rintro e V5 ⟨vn, vl, rfl, hv, hb⟩
      rw [← HXA.out] at hv
      rw [← HEA.out]
      obtain ⟨nx, cx, lx, dx, rfl, rfl⟩ := hv.parts
      have hgx := grat_box hv hb.size
      obtain ⟨W6, hW6⟩ : ∃ W, W = V5.alloc (.cells #[.slice nx XA.nodes.length cx, .slice lx XA.links.length dx] 25) := ⟨_, rfl⟩
      obtain ⟨bx, hbx⟩ : ∃ b, b = V5.heap.size := ⟨_, rfl⟩
      rw [← hW6, ← hbx] at hgx
      have HGX6 := Lib.hid hgx
      have HB6 : Hid (Below wo.heap.size wo W6) := Lib.hid (by rw [hW6]; exact gNx hb (gAl _ _))
      clear hgx hv hb i0 i1 c0 c1 c2 c3 HGI
      go_upto_region 6 with (fail)
      rw [← hW6, ← hbx]
      clear hW6 hbx
      obtain ⟨-, -, ⟨g0, g1⟩, hgi, ⟨c0, c1, c2, c3⟩⟩ := HAT.out W6 HB6.out
      have HGI := Lib.hid hgi
      clear hgi
      go_wp2_with fail
      refine (rApply_any G na nc la lc kd a b q W6 HGI.out HQQ.out).mono ?_
      rintro e V7 ⟨vn, vl, rfl, hv, hb⟩
      rw [← HXA.out] at hv
      rw [← HEA.out]
      obtain ⟨ny, cy, ly, dy, rfl, rfl⟩ := hv.parts
      have hgy := grat_box hv hb.size
      obtain ⟨W8, hW8⟩ : ∃ W, W = V7.alloc (.cells #[.slice ny XA.nodes.length cy, .slice ly XA.links.length dy] 25) := ⟨_, rfl⟩
      obtain ⟨by_, hby⟩ : ∃ b, b = V7.heap.size := ⟨_, rfl⟩
      rw [← hW8, ← hby] at hgy
      have b8 : Below W6.heap.size W6 W8 := by rw [hW8]; exact gNx hb (gAl _ _)
      have hgx := HGX6.out.below b8
      have HI1 := Lib.hid (GrAt.gin hgx (by have := HXL.out; omega) (by have := HXL.out; omega))
      have HI2 := Lib.hid (GrAt.gin hgy (by have := HXL.out; omega) (by have := HXL.out; omega))
      have HB8 := Lib.hid (gNx HB6.out b8)
      go_upto_region 7 with (fail)
      rw [← hW8, ← hby]
      clear hW8 hby g0 g1 c0 c1 c2 c3 HGI hv hb
      obtain ⟨d0, d1, -, -⟩ := hgx.cells
      obtain ⟨d2, d3, -, -⟩ := hgy.cells
      have HGX8 := Lib.hid hgx
      clear hgx hgy b8 HGX6
      go_wp2_with fail
      refine (rSame_gin XA nx ny lx ly cx cy dx dy W8 HI1.out HI2.out).mono ?_
      rintro e VS ⟨rfl, hb⟩
      have HGX := Lib.hid (HGX8.out.below hb)
      have HBX := Lib.hid (gNx HB8.out hb)
      clear hb d0 d1 d2 d3 HGX8 HI1 HI2
      go_wp2_with fail
      go_loopw [11] (fun v wr => ∃ (k : Nat) (X : Gr), v = .int .i64 (k : Int) ∧ k ≤ XA.nodes.length ∧ X.nodes.length = XA.nodes.length ∧ X.links.length = XA.links.length ∧ GrAt wr wo.heap.size bx (.slice nx XA.nodes.length cx) (.slice lx XA.links.length dx) X ∧ Below wo.heap.size wo wr) (fun v _ => XA.nodes.length - (RowKit.intOf v).toNat)
      case atStart => exact ⟨0, XA, rfl, by omega, rfl, rfl, HGX.out, HBX.out⟩
      case round =>
        obtain ⟨k, X, rfl, hk, hN, hM, hga, hbw⟩ := hrel
        obtain ⟨d0, d1, -, -⟩ := hga.cells
        by_cases hlt : k < XA.nodes.length
        · have hlti : (k : Int) < (XA.nodes.length : Int) := by omega
          have hk0 : (0 : Int) ≤ (k : Int) := by omega
          have hkw : IntKind.i64.wrap ((k : Int) + 1) = (k : Int) + 1 := by rw [IntKind.wrap_i64]; have := HLN.out; omega
          have hkx : k < X.nodes.length := by omega
          have hln : 0 < X.nodes.length := by omega
          rw [← hN] at hga
          obtain ⟨g, cap, e2, hg2, -, hr, ht⟩ := hga.nodes.range hln
          simp only [Value.slice.injEq, true_and] at e2
          obtain ⟨rfl, rfl⟩ := e2
          obtain ⟨u, r1⟩ : ∃ u, wr.cell? ⟨g, k * 3, none⟩ = some (.int .i64 u) := ⟨_, by have := hr _ _ (ndRow_get X.nodes k hkx).1; rw [Nat.zero_add] at this; exact this⟩
          have r2 : wr.frozen? ⟨g, k * 3, none⟩ = false := by have := (ht (k * 3) (by omega)).2; rw [Nat.zero_add] at this; exact this
          have htn := hga.turnN (l' := X.nodes.set k { X.nodes[k] with id := -7 }) (k * 3) (.int .i64 (-7)) hln (by simp) (by have := ndRow_turn X.nodes k hkx { X.nodes[k] with id := -7 } 0 (.int .i64 (-7)) (by decide) rfl; exact this)
          rw [hN] at htn
          have HTN := Lib.hid htn
          have HNN : Hid ((X.nodes.set k { X.nodes[k] with id := -7 }).length = XA.nodes.length ∧ X.links.length = XA.links.length) := Lib.hid ⟨by simp [hN], hM⟩
          have HBW := Lib.hid hbw
          clear hga hg2 hr ht htn hln hN hM hbw
          go_wp2_with fail
          refine ⟨⟨k + 1, { X with nodes := X.nodes.set k { X.nodes[k] with id := -7 } }, by simp, by omega, HNN.out.1, HNN.out.2, HTN.out.1, HBW.out.trans HTN.out.2⟩, ?_⟩
          simp [RowKit.intOf]; omega
        · have hnk : ¬ (k : Int) < (XA.nodes.length : Int) := by omega
          have HGA := Lib.hid hga
          have HNM : Hid (X.nodes.length = XA.nodes.length ∧ X.links.length = XA.links.length) := Lib.hid ⟨hN, hM⟩
          have HBW := Lib.hid hbw
          clear hlt hga hN hM hbw
          
          go_wp2_with fail
          clear d0 d1
          go_loopw [12] (fun v wr => ∃ (k : Nat) (X : Gr), v = .int .i64 (k : Int) ∧ k ≤ XA.links.length ∧ X.nodes.length = XA.nodes.length ∧ X.links.length = XA.links.length ∧ GrAt wr wo.heap.size bx (.slice nx XA.nodes.length cx) (.slice lx XA.links.length dx) X ∧ Below wo.heap.size wo wr) (fun v _ => XA.links.length - (RowKit.intOf v).toNat)
          case atStart => exact ⟨0, X, rfl, by omega, HNM.out.1, HNM.out.2, HGA.out, HBW.out⟩
          case round =>
            obtain ⟨k, X, rfl, hk, hN, hM, hga, hbw⟩ := hrel
            obtain ⟨d0, d1, -, -⟩ := hga.cells
            by_cases hlt : k < XA.links.length
            · have hlti : (k : Int) < (XA.links.length : Int) := by omega
              have hk0 : (0 : Int) ≤ (k : Int) := by omega
              have hkw : IntKind.i64.wrap ((k : Int) + 1) = (k : Int) + 1 := by rw [IntKind.wrap_i64]; have := HLN.out; omega
              have hkx : k < X.links.length := by omega
              have hln : 0 < X.links.length := by omega
              rw [← hM] at hga
              obtain ⟨g, cap, e2, hg2, -, hr, ht⟩ := hga.links.range hln
              simp only [Value.slice.injEq, true_and] at e2
              obtain ⟨rfl, rfl⟩ := e2
              obtain ⟨u, r1⟩ : ∃ u, wr.cell? ⟨g, k * 4, none⟩ = some (.int .i64 u) := ⟨_, by have := hr _ _ (lkRow_get X.links k hkx).1; rw [Nat.zero_add] at this; exact this⟩
              have r2 : wr.frozen? ⟨g, k * 4, none⟩ = false := by have := (ht (k * 4) (by omega)).2; rw [Nat.zero_add] at this; exact this
              have htn := hga.turnL (l' := X.links.set k { X.links[k] with a := -7 }) (k * 4) (.int .i64 (-7)) hln (by simp) (by have := lkRow_turn X.links k hkx { X.links[k] with a := -7 } 0 (.int .i64 (-7)) (by decide) rfl; exact this) (fun y hy => by
                rcases List.mem_or_eq_of_mem_set hy with h | h
                · exact hga.wts y h
                · rw [h]; have h3 := hga.wts _ (List.getElem_mem hkx); exact h3)
              rw [hM] at htn
              have HTN := Lib.hid htn
              have HNN : Hid (X.nodes.length = XA.nodes.length ∧ (X.links.set k { X.links[k] with a := -7 }).length = XA.links.length) := Lib.hid ⟨hN, by simp [hM]⟩
              have HBW := Lib.hid hbw
              clear hga hg2 hr ht htn hln hN hM hbw
              go_wp2_with fail
              refine ⟨⟨k + 1, { X with links := X.links.set k { X.links[k] with a := -7 } }, by simp, by omega, HNN.out.1, HNN.out.2, HTN.out.1, HBW.out.trans HTN.out.2⟩, ?_⟩
              simp [RowKit.intOf]; omega
            · have hnk : ¬ (k : Int) < (XA.links.length : Int) := by omega
              have HBW := Lib.hid hbw
              clear hlt hga hN hM hbw
              obtain ⟨⟨i0, i1⟩, hgi, -, -, -⟩ := HAT.out wr HBW.out
              go_wp2_with fail
              clear d0 d1
              have HGI := Lib.hid hgi
              clear hgi
              refine (gLive_any G ni ci li di wr HGI.out).mono ?_
              rintro e V9 ⟨vn, vl, rfl, hv, hb⟩
              rw [← HLZ.out] at hv
              obtain ⟨nz, cz, lz, dz, rfl, rfl⟩ := hv.parts
              have HVZ := Lib.hid (hv.mono HBW.out.size)
              have B9 := Lib.hid (gNx HBW.out hb)
              clear hv hb i0 i1
              have hgz := grat_box HVZ.out B9.out.size
              obtain ⟨WZ, hWZ⟩ : ∃ W, W = V9.alloc (.cells #[.slice nz Z.nodes.length cz, .slice lz Z.links.length dz] 25) := ⟨_, rfl⟩
              obtain ⟨bz, hbz⟩ : ∃ b, b = V9.heap.size := ⟨_, rfl⟩
              rw [← hWZ, ← hbz] at hgz
              have HGZ := Lib.hid hgz
              have HBZ : Hid (Below wo.heap.size wo WZ) := Lib.hid (by rw [hWZ]; exact gNx B9.out (gAl _ _))
              clear hgz
              go_upto_region 18 with (fail)
              rw [← hWZ, ← hbz]
              clear hWZ hbz
              go_wp2_with fail
              go_loopw [15] (fun v wr => ∃ (k : Nat) (X : Gr), v = .int .i64 (k : Int) ∧ k ≤ Z.nodes.length ∧ X.nodes.length = Z.nodes.length ∧ X.links.length = Z.links.length ∧ GrAt wr wo.heap.size bz (.slice nz Z.nodes.length cz) (.slice lz Z.links.length dz) X ∧ Below wo.heap.size wo wr) (fun v _ => Z.nodes.length - (RowKit.intOf v).toNat)
              case atStart => exact ⟨0, Z, rfl, by omega, rfl, rfl, HGZ.out, HBZ.out⟩
              case round =>
                obtain ⟨k, X, rfl, hk, hN, hM, hga, hbw⟩ := hrel
                obtain ⟨d0, d1, -, -⟩ := hga.cells
                by_cases hlt : k < Z.nodes.length
                · have hlti : (k : Int) < (Z.nodes.length : Int) := by omega
                  have hk0 : (0 : Int) ≤ (k : Int) := by omega
                  have hkw : IntKind.i64.wrap ((k : Int) + 1) = (k : Int) + 1 := by rw [IntKind.wrap_i64]; have := HLN.out; omega
                  have hkx : k < X.nodes.length := by omega
                  have hln : 0 < X.nodes.length := by omega
                  rw [← hN] at hga
                  obtain ⟨g, cap, e2, hg2, -, hr, ht⟩ := hga.nodes.range hln
                  simp only [Value.slice.injEq, true_and] at e2
                  obtain ⟨rfl, rfl⟩ := e2
                  obtain ⟨u, r1⟩ : ∃ u, wr.cell? ⟨g, k * 3, none⟩ = some (.int .i64 u) := ⟨_, by have := hr _ _ (ndRow_get X.nodes k hkx).1; rw [Nat.zero_add] at this; exact this⟩
                  have r2 : wr.frozen? ⟨g, k * 3, none⟩ = false := by have := (ht (k * 3) (by omega)).2; rw [Nat.zero_add] at this; exact this
                  have htn := hga.turnN (l' := X.nodes.set k { X.nodes[k] with id := -8 }) (k * 3) (.int .i64 (-8)) hln (by simp) (by have := ndRow_turn X.nodes k hkx { X.nodes[k] with id := -8 } 0 (.int .i64 (-8)) (by decide) rfl; exact this)
                  rw [hN] at htn
                  have HTN := Lib.hid htn
                  have HNN : Hid ((X.nodes.set k { X.nodes[k] with id := -8 }).length = Z.nodes.length ∧ X.links.length = Z.links.length) := Lib.hid ⟨by simp [hN], hM⟩
                  have HBW := Lib.hid hbw
                  clear hga hg2 hr ht htn hln hN hM hbw
                  go_wp2_with fail
                  refine ⟨⟨k + 1, { X with nodes := X.nodes.set k { X.nodes[k] with id := -8 } }, by simp, by omega, HNN.out.1, HNN.out.2, HTN.out.1, HBW.out.trans HTN.out.2⟩, ?_⟩
                  simp [RowKit.intOf]; omega
                · have hnk : ¬ (k : Int) < (Z.nodes.length : Int) := by omega
                  have HGA := Lib.hid hga
                  have HNM : Hid (X.nodes.length = Z.nodes.length ∧ X.links.length = Z.links.length) := Lib.hid ⟨hN, hM⟩
                  have HBW := Lib.hid hbw
                  clear hlt hga hN hM hbw
                  obtain ⟨⟨i0, i1⟩, hgi, -, -, ⟨c0, c1, c2, c3⟩⟩ := HAT.out wr HBW.out
                  go_wp2_with fail
                  clear d0 d1
                  have HGI := Lib.hid hgi
                  clear hgi
                  refine (gNeighbours_any G ni ci li di a wr HGI.out).mono ?_
                  rintro e VN ⟨v, rfl, ho, hwn, hb⟩
                  rw [← HNB.out] at ho
                  obtain ⟨ab, cb, rfl⟩ := ho.slice
                  have HON := Lib.hid (ho.mono HBW.out.size)
                  have HBN := Lib.hid (gNx HBW.out hb)
                  clear ho hwn hb i0 i1 c0 c1 c2 c3
                  go_wp2_with fail
                  go_loopw [18] (fun v wr => ∃ (k : Nat) (L : List Lk), v = .int .i64 (k : Int) ∧ k ≤ NB.length ∧ L.length = NB.length ∧ Own wr wo.heap.size 54 4 (.slice ab NB.length cb) NB.length (lkRow L) ∧ Below wo.heap.size wo wr) (fun v _ => NB.length - (RowKit.intOf v).toNat)
                  case atStart => exact ⟨0, NB, rfl, by omega, rfl, HON.out, HBN.out⟩
                  case round =>
                    obtain ⟨k, L, rfl, hk, hN, how, hbw⟩ := hrel
                    by_cases hlt : k < NB.length
                    · have hlti : (k : Int) < (NB.length : Int) := by omega
                      have hk0 : (0 : Int) ≤ (k : Int) := by omega
                      have hkw : IntKind.i64.wrap ((k : Int) + 1) = (k : Int) + 1 := by rw [IntKind.wrap_i64]; have := HLB.out; omega
                      have hkx : k < L.length := by omega
                      have hln : 0 < NB.length := by omega
                      obtain ⟨g, cap, e2, hg2, hgb, hr, ht⟩ := how.range hln
                      simp only [Value.slice.injEq, true_and] at e2
                      obtain ⟨rfl, rfl⟩ := e2
                      obtain ⟨u, r1⟩ : ∃ u, wr.cell? ⟨g, k * 4 + 1, none⟩ = some (.int .i64 u) := ⟨_, by have := hr _ _ (lkRow_get L k hkx).2.1; rw [Nat.zero_add] at this; exact this⟩
                      have r2 : wr.frozen? ⟨g, k * 4 + 1, none⟩ = false := by have := (ht (k * 4 + 1) (by omega)).2; rw [Nat.zero_add] at this; exact this
                      obtain ⟨s1, s2, -⟩ := own_set (j := k * 4 + 1) how hln (.int .i64 (-9))
                      have hset := lkRow_turn L k hkx { L[k] with b := -9 } 1 (.int .i64 (-9)) (by decide) rfl
                      rw [← hset] at s1
                      have HS1 := Lib.hid s1
                      have HS2 : Hid (Below wo.heap.size wo (wr.setCell ⟨g, k * 4 + 1, none⟩ (.int .i64 (-9)))) := Lib.hid (hbw.setCell hgb _)
                      have HNN : Hid ((L.set k { L[k] with b := -9 }).length = NB.length) := Lib.hid (by simp [hN])
                      clear how hg2 hgb hr ht s1 s2 hset hln hN hbw
                      go_wp2_with fail
                      refine ⟨⟨k + 1, L.set k { L[k] with b := -9 }, by simp, by omega, HNN.out, HS1.out, HS2.out⟩, ?_⟩
                      simp [RowKit.intOf]; omega
                    · have hnk : ¬ (k : Int) < (NB.length : Int) := by omega
                      have HBW := Lib.hid hbw
                      clear hlt how hN hbw
                      go_wp2_with fail
                      refine ⟨⟨kr + 1, by simp, by omega, gNx HBR.out HBW.out⟩, ?_⟩
                      simp [RowKit.intOf]; omega
    · have hnk : ¬ (kr : Int) < 2 := by omega
      obtain ⟨⟨i0, i1⟩, hgi, ⟨g0, g1⟩, hgj, -⟩ := HAT.out wo (Below.refl _ _)
      have HGI := Lib.hid hgi
      have HGJ := Lib.hid hgj
      clear hgi hgj hlt
      go_wp2_with fail
      refine (rSame_gin G ni na li la ci nc di lc wo HGI.out HGJ.out).mono ?_
      rintro e V6 ⟨rfl, hb⟩
      have B6 := Lib.hid (gNx HBR.out hb)
      clear hb i0 i1 g0 g1
      go_wp2_with fail
      refine (gAwake_any _).mono ?_
      rintro e V7 ⟨rfl, hb⟩
      have B7 := Lib.hid (gNx B6.out hb)
      clear hb
      go_wp2_with fail
      go_ret
      exact ⟨rfl, gNx HB4.out B7.out⟩
end Go.Proofs.Ytgjpgpjdealbeaa
end

section
namespace Go.Proofs.Ytgjpgpjdealbeaa.graphOwn
open Go.ChangeShapes Go.WideShapes Go.ChangeAt Go.RowKit Go.Nq Go.Lib
open Go.ChangeMaps (open_string shut_string)
set_option linter.unusedVariables false

theorem own : ownKnob Try.prog.godebug = none := by kernel_rfl
theorem laidOut : laidOutB Try.prog = true := by kernel_rfl

theorem lt64 {a : Nat} (h : (Lit.float .f64 a).wf = true) : a < 2 ^ 64 := by simpa [Lit.wf] using h

set_option maxRecDepth 100000 in
theorem lifted (os : Os) (started : os.Started) (H : Type) (enc : TypeId × Value → H) :
    ReturnsInHanded {} Try.checked os 9 .any (Rows.graphOwnSpec.pre6 enc Try.prog Try.f9 Rows.graphOwnRow.domain false) (Rows.graphOwnSpec.post enc Try.prog Try.f9 false true false false) := by
  refine returnsInHanded_of_change_sized (C := Try.checked) own started (by kernel_rfl) Try.func9
    (ChangeSpec.witness6 (enc := enc) (C := Try.checked) false ⟨#[], #[.agg #[.slice none 0 0, .slice none 0 0], .agg #[.int .i64 0, .int .i64 0, .int .i64 0, .float .f64 0]], []⟩ 8 (by kernel_rfl) (by kernel_rfl) (by kernel_rfl) (by kernel_rfl)) ?_
  intro W base args ds gs before hval0 hW hcnd0 hsz0 hholds
  have hsz : (DataW.weightsEach Try.prog (Try.f9.params.toList ++ Rows.graphOwnSpec.plain.varTypes Try.prog) (ds ++ gs)).all (· ≤ reachBytes) = true := hsz0
  clear hsz0
  have hval : ∀ (j : Nat) t v, Try.f9.params[j]? = some t → args[j]? = some v → Value.okWide Try.prog W .any base t v := hval0
  have hW' := hW
  obtain ⟨p, q, hA0, hV, rfl, hfz, hnd⟩ := hW
  have hA : DataW.TrodAll enc Try.prog W 0 (fun _ => true) true Try.f9.params.toList args.toList ds p := hA0
  rw [Try.params9] at hA hval hsz
  obtain ⟨v0, vs0, d0, ds0, p0, q0, hargs, rfl, rfl, h0, r0⟩ := trodAll_cons hA
  obtain ⟨v1, vs1, d1, ds1, p1, q1, rfl, rfl, rfl, h1, r1⟩ := trodAll_cons r0
  obtain ⟨rfl, rfl, rfl⟩ := trodAll_nil r1
  obtain rfl : args = #[v0, v1] := by cases args; simp_all
  obtain ⟨rfl, rfl⟩ := trodVars_none hV
  have k0 := h0
  have lt0 : ∀ x ∈ p0, x.block < W.heap.size := by obtain ⟨m, hm⟩ := k0; exact DataW.trod_lt m _ _ _ hm
  obtain ⟨cs0, rfl, -⟩ := okWide_struct Try.underlying25 (hval 0 25 v0 rfl rfl)
  obtain ⟨fu0, hf0⟩ := h0
  obtain ⟨ug0, una0, unc0, ula0, ulc0, hcs0, hin0⟩ := gin_graph (by simpa [Value.cells] using hf0) (fun x hx => by have h := List.all_eq_true.1 hsz _ (DataW.weights_mem_each (j := 0) rfl rfl x hx); simpa using h)
  obtain ⟨cl0⟩ := cs0
  simp only at hcs0
  subst hcs0
  have k1 := h1
  have lt1 : ∀ x ∈ p1, x.block < W.heap.size := by obtain ⟨m, hm⟩ := k1; exact DataW.trod_lt m _ _ _ hm
  obtain ⟨cs1, rfl, -⟩ := okWide_struct Try.underlying33 (hval 1 33 v1 rfl rfl)
  obtain ⟨fu1, hf1⟩ := h1
  obtain ⟨uk1, ua1, ub1, uq1, hcs1, hin1⟩ := gin_change (by simpa [Value.cells] using hf1)
  obtain ⟨cl1⟩ := cs1
  simp only at hcs1
  subst hcs1
  clear hA0 hval0
  refine (law_own ug0 una0 unc0 ula0 ulc0 uk1 ua1 ub1 uq1 W hin0 hin1).mono fun e W' ⟨he, bel⟩ => ?_
  subst he
  exact ⟨_, rfl, _, _, _, [], _, [], hW', trodAll_mk1 (shut_bool Try.underlying4 _), (trodAll_cons_mk (Below.trod laidOut (by kernel_rfl) (of_decide_eq_true (by kernel_rfl)) k0 bel lt0) (trodAll_cons_mk (Below.trod laidOut (by kernel_rfl) (of_decide_eq_true (by kernel_rfl)) k1 bel lt1) trodAll_mk0)), rfl, bel.frame _, fun h => by cases h⟩

theorem over : Rows.graphOwnRow.holds Try.pinned (OpenSpec.ofChange Rows.graphOwnSpec) :=
  OpenClaim.holds_of_wide 9 Try.f9 rfl rfl rfl rfl rfl rfl rfl ⟨rfl, rfl, rfl, rfl, rfl⟩ rfl rfl rfl rfl rfl (by kernel_rfl) Try.func9 (by kernel_rfl)
    (of_decide_eq_true (by kernel_rfl)) (by unfold Func.isWrapper; first | (rw [if_pos (by decide +kernel)]; kernel_rfl) | (rw [if_neg (by decide +kernel)]; exact ⟨rfl, rfl⟩))
    (fun os started H enc _ => lifted os started H enc)

theorem proved : Rows.GraphOwnSaid := over
end Go.Proofs.Ytgjpgpjdealbeaa.graphOwn
end
