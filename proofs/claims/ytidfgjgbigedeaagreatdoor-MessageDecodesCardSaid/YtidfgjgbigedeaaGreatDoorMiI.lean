/- Messages: a message of fields, the document. Messages: a message of fields, the document, whole. -/
import Derived.Test.YtidfgjgbigedeaaGreatDoorMiF
import Derived.Test.YtidfgjgbigedeaaGreatDoorMqF
import Derived.Deep.AppendLies
section
namespace Go.Proofs.YtidfgjgbigedeaaGreatDoor
open Go.RowKit Go.Lib Go.Wq Go.Mq
set_option linter.unusedVariables false
set_option linter.unusedSimpArgs false
set_option maxRecDepth 100000

theorem box2_new0 (w : World) (cs zs : List Value) (t : TypeId) (hz : zs.length = 17) (hc : cs.length = 17) : Box2 w.heap.size w w.heap.size (w.heap.size + 1) cs ((w.alloc (.cells zs.toArray t)).alloc (.cells cs.toArray t)) := by
  have h := box2_new w (w.alloc (.cells zs.toArray t)) cs zs t hz hc (Below.refl _ _)
  rwa [show (w.alloc (.cells zs.toArray t)).heap.size = w.heap.size + 1 by simp] at h
/-- Behind an allocation and an append elsewhere. -/
theorem Box2.grown {B : Nat} {w V V6 : World} {r x : Nat} {cs : List Value} {o : Obj} {row : Option Nat} (h : Box2 B w r x cs V) (hg : (V.alloc o).grownBy V6 row) (hrow : ∀ g, row = some g → g ≠ x ∧ g ≠ r ∧ B ≤ g) (hB : B ≤ V.heap.size) : Box2 B w r x cs V6 := by
  have hsz := hg.size
  have hs0 : (V.alloc o).heap.size = V.heap.size + 1 := by simp
  have hblk : ∀ j, j < V.heap.size → row ≠ some j → V6.heap[j]? = V.heap[j]? := fun j hj hne => (hg.block j (by omega) (fun e => hne e.symm)).trans (Below.heap_alloc _ _ _ hj)
  have ex := hblk x h.hx (fun e => (hrow x e).1 rfl)
  have er := hblk r h.hr (fun e => (hrow r e).2.1 rfl)
  refine ⟨(h.bel.alloc hB o).grown hg (by omega) (fun g hg' => (hrow g hg').2.2), by have := h.hx; omega, by have := h.hr; omega, fun j v hj => (World.cell?_of_block ex).trans (h.at_ j v hj), ?_, ?_⟩
  · intro j hj
    obtain ⟨h1, h2⟩ := h.t1 j hj
    exact ⟨by rw [World.cell?_of_block ex]; exact h1, by rw [World.frozen?_of_block (a := ⟨x, 0 + j, none⟩) ex]; exact h2⟩
  · intro j hj
    obtain ⟨h1, h2⟩ := h.t2 j hj
    exact ⟨by rw [World.cell?_of_block er]; exact h1, by rw [World.frozen?_of_block (a := ⟨r, 0 + j, none⟩) er]; exact h2⟩
theorem ms2_cells (nn ec sq : Nat) (l : List Nw) (n : Nat) (h : l.length = n) (na : Option Addr) (nc : Nat) : msCells ⟨2, nn, ec, sq, l, pkZ⟩ na nc = [.int .i64 2, .int .u64 (nn : Int), .int .u64 (ec : Int), .int .u64 (sq : Int), .slice na n nc, .int .i64 0, .int .i64 0, .int .i64 0, .int .i64 0, .int .i64 0, .int .i64 0, .int .u64 0, .int .i64 0, .string ⟨#[]⟩, .int .i64 0, .int .i64 0, .string ⟨#[]⟩] := by
  subst h; rfl
theorem cells_nw {i : TypeInfo} {z : Value} (hi : Tryz.prog.info? 42 = some i) (hz : i.zero = some z) : z.cells.size = 5 := by
  have h1 : ∃ (i : TypeInfo) (z : Value), Tryz.prog.info? 42 = some i ∧ i.zero = some z ∧ z.cells.size = 5 := by refine ⟨_, _, rfl, rfl, ?_⟩; kernel_rfl
  obtain ⟨i', z', e1, e2, e3⟩ := h1
  rw [hi] at e1
  obtain rfl := Option.some.inj e1
  rw [hz] at e2
  obtain rfl := Option.some.inj e2
  exact e3
theorem lit_nw (w : World) (cs : Array Value) (t : TypeId) : ∀ j u, cs.toList[j]? = some u → (w.alloc (.cells cs t)).cell? ((⟨w.heap.size, 0, none⟩ : Addr).add j) = some u := fun j u hj => by
  rw [Go.Wq.add_none, Nat.zero_add]
  simpa [go_sem] using hj
theorem own_offR {V : World} {B x o n size : Nat} {e : TypeId} {v : Value} {xs : List Value} (vs : List Value) (h : V.ownsRow B e size v n xs) (hne : v.ownBlock ≠ some x) : (V.setCells x o vs).ownsRow B e size v n xs := by
  refine ⟨h.1, ?_⟩
  rcases h.2 with h' | ⟨g, cap, cur, ev, h1, h2, h3⟩
  · exact Or.inl h'
  · refine Or.inr ⟨g, cap, cur, ev, h1, ?_, h3⟩
    have hg : g ≠ x := fun hg => hne (by rw [ev, hg]; rfl)
    rw [← h2]
    exact heap_sets x g hg vs o V

set_option maxHeartbeats 4000000 in
theorem rMsOf_1 (nn ec : Nat) (b o c : Nat) (w : World) (hb : b < w.heap.size)
    (e1 : w.cell? ⟨b, o + 6, none⟩ = some (.int .u64 (nn : Int))) (e2 : w.cell? ⟨b, o + 12, none⟩ = some (.int .u64 (ec : Int)))
    : Calls Tryz.prog 30 #[.int .i64 1, .slice (some ⟨b, o, none⟩) 3 c] w (MsEnds w ⟨1, nn, ec, 0, [], pkZ⟩) := by
  go_enter Tryz.func30, Tryz.ntmps30
  go_upto_region 1 with (fail)
  go_upto_region 2 with (fail)
  have HX := Lib.hid (box2_new0 w [.int .i64 1, .int .u64 0, .int .u64 0, .int .u64 0, .slice none 0 0, .int .i64 0, .int .i64 0, .int .i64 0, .int .i64 0, .int .i64 0, .int .i64 0, .int .u64 0, .int .i64 0, .string ⟨#[]⟩, .int .i64 0, .int .i64 0, .string ⟨#[]⟩] [.int .i64 0, .int .u64 0, .int .u64 0, .int .u64 0, .slice none 0 0, .int .i64 0, .int .i64 0, .int .i64 0, .int .i64 0, .int .i64 0, .int .i64 0, .int .u64 0, .int .i64 0, .string ⟨#[]⟩, .int .i64 0, .int .i64 0, .string ⟨#[]⟩] 27 rfl rfl)
  generalize (w.alloc (.cells #[.int .i64 0, .int .u64 0, .int .u64 0, .int .u64 0, .slice none 0 0, .int .i64 0, .int .i64 0, .int .i64 0, .int .i64 0, .int .i64 0, .int .i64 0, .int .u64 0, .int .i64 0, .string ⟨#[]⟩, .int .i64 0, .int .i64 0, .string ⟨#[]⟩] 27)).alloc (.cells #[.int .i64 1, .int .u64 0, .int .u64 0, .int .u64 0, .slice none 0 0, .int .i64 0, .int .i64 0, .int .i64 0, .int .i64 0, .int .i64 0, .int .i64 0, .int .u64 0, .int .i64 0, .string ⟨#[]⟩, .int .i64 0, .int .i64 0, .string ⟨#[]⟩] 27) = V1 at *
  have q1 := HX.out.cell 1 _ rfl
  have q2 := HX.out.frozen 1 (by omega)
  have q3 := (HX.out.bel.cell (p := ⟨b, o + 6, none⟩) hb).trans e1
  go_upto_region 6 with (fail)
  have HXa : Hid (Box2 w.heap.size w w.heap.size (w.heap.size + 1) [.int .i64 1, .int .u64 (nn : Int), .int .u64 0, .int .u64 0, .slice none 0 0, .int .i64 0, .int .i64 0, .int .i64 0, .int .i64 0, .int .i64 0, .int .i64 0, .int .u64 0, .int .i64 0, .string ⟨#[]⟩, .int .i64 0, .int .i64 0, .string ⟨#[]⟩] (V1.setCell ⟨w.heap.size + 1, 1, none⟩ (.int .u64 (nn : Int)))) := Lib.hid (HX.out.sets (Nat.le_succ _) 1 [.int .u64 (nn : Int)] (by simp) rfl)
  generalize V1.setCell ⟨w.heap.size + 1, 1, none⟩ (.int .u64 (nn : Int)) = Va at *
  clear q1 q2 q3
  have q1 := HXa.out.cell 2 _ rfl
  have q2 := HXa.out.frozen 2 (by omega)
  have q3 := (HXa.out.bel.cell (p := ⟨b, o + 12, none⟩) hb).trans e2
  go_upto_region 7 with (fail)
  have HXb : Hid (Box2 w.heap.size w w.heap.size (w.heap.size + 1) [.int .i64 1, .int .u64 (nn : Int), .int .u64 (ec : Int), .int .u64 0, .slice none 0 0, .int .i64 0, .int .i64 0, .int .i64 0, .int .i64 0, .int .i64 0, .int .i64 0, .int .u64 0, .int .i64 0, .string ⟨#[]⟩, .int .i64 0, .int .i64 0, .string ⟨#[]⟩] (Va.setCell ⟨w.heap.size + 1, 2, none⟩ (.int .u64 (ec : Int)))) := Lib.hid (HXa.out.sets (Nat.le_succ _) 2 [.int .u64 (ec : Int)] (by simp) rfl)
  generalize Va.setCell ⟨w.heap.size + 1, 2, none⟩ (.int .u64 (ec : Int)) = Vb at *
  clear q1 q2 q3
  go_upto_region 8 with (fail)
  refine wp_region_list ?_
  refine wpList_load_guard (by kernel_rfl) 27 (.tmp 5) rfl (w.heap.size + 1) 0 rfl [.int .i64 1, .int .u64 (nn : Int), .int .u64 (ec : Int), .int .u64 0, .slice none 0 0, .int .i64 0, .int .i64 0, .int .i64 0, .int .i64 0, .int .i64 0, .int .i64 0, .int .u64 0, .int .i64 0, .string ⟨#[]⟩, .int .i64 0, .int .i64 0, .string ⟨#[]⟩] _ HXb.out.at_ Tryz.underlying27 (by rfl) (by kernel_rfl) ?_
  try simp only [Act.put, List.setIfInBounds_toArray, List.set_cons_zero, List.set_cons_succ, List.getElem_toArray, List.getElem_cons_succ, List.getElem_cons_zero]
  refine wpList_store_mid rfl 27 _ _ rfl w.heap.size 0 #[.int .i64 1, .int .u64 (nn : Int), .int .u64 (ec : Int), .int .u64 0, .slice none 0 0, .int .i64 0, .int .i64 0, .int .i64 0, .int .i64 0, .int .i64 0, .int .i64 0, .int .u64 0, .int .i64 0, .string ⟨#[]⟩, .int .i64 0, .int .i64 0, .string ⟨#[]⟩] rfl rfl HXb.out.t2 (by kernel_rfl) (all_oneCell_toArray (cs := [.int .i64 1, .int .u64 (nn : Int), .int .u64 (ec : Int), .int .u64 0, .slice none 0 0, .int .i64 0, .int .i64 0, .int .i64 0, .int .i64 0, .int .i64 0, .int .i64 0, .int .u64 0, .int .i64 0, .string ⟨#[]⟩, .int .i64 0, .int .i64 0, .string ⟨#[]⟩]) (by intro v hv; simp only [List.mem_cons, List.not_mem_nil, or_false] at hv; rcases hv with rfl | rfl | rfl | rfl | rfl | rfl | rfl | rfl | rfl | rfl | rfl | rfl | rfl | rfl | rfl | rfl | rfl <;> rfl)) ?_
  obtain ⟨R, hbl⟩ := HXb.out.out (Nat.le_refl _) rfl
  generalize Vb.setCells w.heap.size 0 [.int .i64 1, .int .u64 (nn : Int), .int .u64 (ec : Int), .int .u64 0, .slice none 0 0, .int .i64 0, .int .i64 0, .int .i64 0, .int .i64 0, .int .i64 0, .int .i64 0, .int .u64 0, .int .i64 0, .string ⟨#[]⟩, .int .i64 0, .int .i64 0, .string ⟨#[]⟩] = Vz at *
  try simp only [Act.put, List.setIfInBounds_toArray, List.set_cons_zero, List.set_cons_succ, List.getElem_toArray, List.getElem_cons_succ, List.getElem_cons_zero]
  refine wpList_nil ?_
  go_wp2_with fail
  refine bodyPost_ret (results_cell Tryz.results30 _ Vz w.heap.size 0 [.int .i64 1, .int .u64 (nn : Int), .int .u64 (ec : Int), .int .u64 0, .slice none 0 0, .int .i64 0, .int .i64 0, .int .i64 0, .int .i64 0, .int .i64 0, .int .i64 0, .int .u64 0, .int .i64 0, .string ⟨#[]⟩, .int .i64 0, .int .i64 0, .string ⟨#[]⟩] _ rfl R Tryz.underlying27 (by rfl) (by kernel_rfl)) rfl ?_
  exact ⟨none, 0, rfl, World.ownsRow_nil _ _ _ _, hbl⟩

set_option maxHeartbeats 4000000 in
theorem rMsOf_2 (nn ec : Nat) (sq : Nat) (ra : Option Addr) (rc : Nat) (rows : List (List Fld)) (b o c : Nat) (w : World) (hb : b < w.heap.size)
    (e1 : w.cell? ⟨b, o + 6, none⟩ = some (.int .u64 (nn : Int))) (e2 : w.cell? ⟨b, o + 12, none⟩ = some (.int .u64 (ec : Int)))
    (e3 : w.cell? ⟨b, o + 18, none⟩ = some (.int .u64 (sq : Int)))
    (e4 : w.cell? ⟨b, o + 29, none⟩ = some (.slice ra rows.length rc)) (hrows : Go.Wq.RowsIn w w.heap.size rows ra rows.length) (h5 : ∀ r ∈ rows, r.length = 5) (hn : rows.length ≤ 1000000)
    : Calls Tryz.prog 30 #[.int .i64 2, .slice (some ⟨b, o, none⟩) 5 c] w (MsEnds w ⟨2, nn, ec, sq, nwsOf wR rows, pkZ⟩) := by
  obtain ⟨i0, z0, hi, hz0, hz1, hz2⟩ := infoNw
  have hz4 : z0.cells.size = 5 := cells_nw hi hz0
  have HF := Lib.hid hrows
  have H5 := Lib.hid h5
  have HN := Lib.hid hn
  clear hrows h5 hn
  go_enter Tryz.func30, Tryz.ntmps30
  go_upto_region 1 with (fail)
  go_upto_region 2 with (fail)
  have HX := Lib.hid (box2_new0 w [.int .i64 2, .int .u64 0, .int .u64 0, .int .u64 0, .slice none 0 0, .int .i64 0, .int .i64 0, .int .i64 0, .int .i64 0, .int .i64 0, .int .i64 0, .int .u64 0, .int .i64 0, .string ⟨#[]⟩, .int .i64 0, .int .i64 0, .string ⟨#[]⟩] [.int .i64 0, .int .u64 0, .int .u64 0, .int .u64 0, .slice none 0 0, .int .i64 0, .int .i64 0, .int .i64 0, .int .i64 0, .int .i64 0, .int .i64 0, .int .u64 0, .int .i64 0, .string ⟨#[]⟩, .int .i64 0, .int .i64 0, .string ⟨#[]⟩] 27 rfl rfl)
  generalize (w.alloc (.cells #[.int .i64 0, .int .u64 0, .int .u64 0, .int .u64 0, .slice none 0 0, .int .i64 0, .int .i64 0, .int .i64 0, .int .i64 0, .int .i64 0, .int .i64 0, .int .u64 0, .int .i64 0, .string ⟨#[]⟩, .int .i64 0, .int .i64 0, .string ⟨#[]⟩] 27)).alloc (.cells #[.int .i64 2, .int .u64 0, .int .u64 0, .int .u64 0, .slice none 0 0, .int .i64 0, .int .i64 0, .int .i64 0, .int .i64 0, .int .i64 0, .int .i64 0, .int .u64 0, .int .i64 0, .string ⟨#[]⟩, .int .i64 0, .int .i64 0, .string ⟨#[]⟩] 27) = V1 at *
  have q1 := HX.out.cell 1 _ rfl
  have q2 := HX.out.frozen 1 (by omega)
  have q3 := (HX.out.bel.cell (p := ⟨b, o + 6, none⟩) hb).trans e1
  go_upto_region 6 with (fail)
  have HXa : Hid (Box2 w.heap.size w w.heap.size (w.heap.size + 1) [.int .i64 2, .int .u64 (nn : Int), .int .u64 0, .int .u64 0, .slice none 0 0, .int .i64 0, .int .i64 0, .int .i64 0, .int .i64 0, .int .i64 0, .int .i64 0, .int .u64 0, .int .i64 0, .string ⟨#[]⟩, .int .i64 0, .int .i64 0, .string ⟨#[]⟩] (V1.setCell ⟨w.heap.size + 1, 1, none⟩ (.int .u64 (nn : Int)))) := Lib.hid (HX.out.sets (Nat.le_succ _) 1 [.int .u64 (nn : Int)] (by simp) rfl)
  generalize V1.setCell ⟨w.heap.size + 1, 1, none⟩ (.int .u64 (nn : Int)) = Va at *
  clear q1 q2 q3
  have q1 := HXa.out.cell 2 _ rfl
  have q2 := HXa.out.frozen 2 (by omega)
  have q3 := (HXa.out.bel.cell (p := ⟨b, o + 12, none⟩) hb).trans e2
  go_upto_region 7 with (fail)
  have HXb : Hid (Box2 w.heap.size w w.heap.size (w.heap.size + 1) [.int .i64 2, .int .u64 (nn : Int), .int .u64 (ec : Int), .int .u64 0, .slice none 0 0, .int .i64 0, .int .i64 0, .int .i64 0, .int .i64 0, .int .i64 0, .int .i64 0, .int .u64 0, .int .i64 0, .string ⟨#[]⟩, .int .i64 0, .int .i64 0, .string ⟨#[]⟩] (Va.setCell ⟨w.heap.size + 1, 2, none⟩ (.int .u64 (ec : Int)))) := Lib.hid (HXa.out.sets (Nat.le_succ _) 2 [.int .u64 (ec : Int)] (by simp) rfl)
  generalize Va.setCell ⟨w.heap.size + 1, 2, none⟩ (.int .u64 (ec : Int)) = Vb at *
  clear q1 q2 q3
  go_upto_region 9 with (fail)
  have q1 := HXb.out.cell 3 _ rfl
  have q2 := HXb.out.frozen 3 (by omega)
  have q3 := (HXb.out.bel.cell (p := ⟨b, o + 18, none⟩) hb).trans e3
  go_upto_region 10 with (fail)
  have HXc : Hid (Box2 w.heap.size w w.heap.size (w.heap.size + 1) [.int .i64 2, .int .u64 (nn : Int), .int .u64 (ec : Int), .int .u64 (sq : Int), .slice none 0 0, .int .i64 0, .int .i64 0, .int .i64 0, .int .i64 0, .int .i64 0, .int .i64 0, .int .u64 0, .int .i64 0, .string ⟨#[]⟩, .int .i64 0, .int .i64 0, .string ⟨#[]⟩] (Vb.setCell ⟨w.heap.size + 1, 3, none⟩ (.int .u64 (sq : Int)))) := Lib.hid (HXb.out.sets (Nat.le_succ _) 3 [.int .u64 (sq : Int)] (by simp) rfl)
  generalize Vb.setCell ⟨w.heap.size + 1, 3, none⟩ (.int .u64 (sq : Int)) = Vc at *
  clear q1 q2 q3
  have hVc : w.heap.size + 2 ≤ Vc.heap.size := by have h1 := HXc.out.hx; omega
  go_wp2_with fail
  go_loopw [6] (fun v wr => ∃ (k : Nat) (na : Option Addr) (nc : Nat), v = .int .i64 (k : Int) ∧ k ≤ rows.length ∧ w.heap.size + 2 ≤ wr.heap.size ∧ Box2 w.heap.size w w.heap.size (w.heap.size + 1) [.int .i64 2, .int .u64 (nn : Int), .int .u64 (ec : Int), .int .u64 (sq : Int), .slice na k nc, .int .i64 0, .int .i64 0, .int .i64 0, .int .i64 0, .int .i64 0, .int .i64 0, .int .u64 0, .int .i64 0, .string ⟨#[]⟩, .int .i64 0, .int .i64 0, .string ⟨#[]⟩] wr ∧ wr.ownsRow (w.heap.size + 2) 42 5 (.slice na k nc) k (nwCells (nwsOf wR (rows.take k)))) (fun v _ => rows.length - (intOf v).toNat)
  case atStart => exact ⟨0, none, 0, rfl, Nat.zero_le _, hVc, HXc.out, World.ownsRow_nil _ _ _ _⟩
  case round =>
    obtain ⟨k, na, nc, rfl, hkn, hsz, hbox, hown⟩ := hrel
    have HXr := Lib.hid hbox
    have HO := Lib.hid hown
    have k29 := (hbox.bel.cell (p := ⟨b, o + 29, none⟩) hb).trans e4
    by_cases hk : k < rows.length
    · have hki : (k : Int) < (rows.length : Int) := by omega
      have hk0 : (0 : Int) ≤ (k : Int) := by omega
      have hw1 : IntKind.i64.wrap ((k : Int) + 1) = (k : Int) + 1 := by have := HN.out; rw [IntKind.wrap_i64]; omega
      obtain ⟨gb, go, rfl, hgb, sa, sn, sc, hcell, hfl⟩ := (Go.Wq.RowsIn.kept (B := w.heap.size) (fun j hj => hbox.bel.block j hj) _ _ _ HF.out).at k hk
      obtain rfl := hfl.len
      have hr5 := H5.out _ (List.getElem_mem hk)
      obtain ⟨rb, ro, rfl, hrb, hf⟩ := flds_c hfl (by rw [hr5]; omega)
      rw [hr5] at hf hcell
      have en : nwOf wR rows[k] = ⟨wR (fat rows[k] 0).U, wR (fat rows[k] 1).U, (fat rows[k] 2).F, (fat rows[k] 3).F, wR (fat rows[k] 4).U⟩ := rfl
      have HTK := Lib.hid (nws_take (w := wR) hk)
      rw [en] at HTK
      have g0 := (hf 0 (by omega)).u
      have g1 := (hf 1 (by omega)).u
      have g2 := (hf 2 (by omega)).f
      have g3 := (hf 3 (by omega)).f
      have g4 := (hf 4 (by omega)).u
      simp only [Nat.zero_mul, Nat.add_zero, Nat.one_mul, Nat.reduceMul] at g0 g1 g2 g3 g4
      clear hf hfl en hr5
      have HW0 := Lib.hid (fun W => rWhole_any (fat rows[k] 0).U W)
      have HW1 := Lib.hid (fun W => rWhole_any (fat rows[k] 1).U W)
      have HW4 := Lib.hid (fun W => rWhole_any (fat rows[k] 4).U W)
      generalize wR (fat rows[k] 0).U = x0 at *
      generalize (fat rows[k] 0).U = u0 at *
      generalize wR (fat rows[k] 1).U = x1 at *
      generalize (fat rows[k] 1).U = u1 at *
      generalize wR (fat rows[k] 4).U = x4 at *
      generalize (fat rows[k] 4).U = u4 at *
      generalize (fat rows[k] 2).F = y2 at *
      generalize (fat rows[k] 3).F = y3 at *
      have K0 : ∀ V, Below wr.heap.size wr V ∨ (∃ V', Below w.heap.size wr V' ∧ V = V') → V.cell? ⟨rb, ro, none⟩ = some (.int .u64 (u0 : Int)) := fun V hV => by
        rcases hV with h | ⟨V', h, rfl⟩
        · exact (h.cell (p := ⟨rb, _, none⟩) (by show rb < _; omega)).trans g0
        · exact (h.cell (p := ⟨rb, _, none⟩) hrb).trans g0
      have K1 : ∀ V, Below wr.heap.size wr V ∨ (∃ V', Below w.heap.size wr V' ∧ V = V') → V.cell? ⟨rb, ro + 6, none⟩ = some (.int .u64 (u1 : Int)) := fun V hV => by
        rcases hV with h | ⟨V', h, rfl⟩
        · exact (h.cell (p := ⟨rb, _, none⟩) (by show rb < _; omega)).trans g1
        · exact (h.cell (p := ⟨rb, _, none⟩) hrb).trans g1
      have K2 : ∀ V, Below wr.heap.size wr V ∨ (∃ V', Below w.heap.size wr V' ∧ V = V') → V.cell? ⟨rb, ro + 14, none⟩ = some (.float .f64 y2) := fun V hV => by
        rcases hV with h | ⟨V', h, rfl⟩
        · exact (h.cell (p := ⟨rb, _, none⟩) (by show rb < _; omega)).trans g2
        · exact (h.cell (p := ⟨rb, _, none⟩) hrb).trans g2
      have K3 : ∀ V, Below wr.heap.size wr V ∨ (∃ V', Below w.heap.size wr V' ∧ V = V') → V.cell? ⟨rb, ro + 20, none⟩ = some (.float .f64 y3) := fun V hV => by
        rcases hV with h | ⟨V', h, rfl⟩
        · exact (h.cell (p := ⟨rb, _, none⟩) (by show rb < _; omega)).trans g3
        · exact (h.cell (p := ⟨rb, _, none⟩) hrb).trans g3
      have K4 : ∀ V, Below wr.heap.size wr V ∨ (∃ V', Below w.heap.size wr V' ∧ V = V') → V.cell? ⟨rb, ro + 24, none⟩ = some (.int .u64 (u4 : Int)) := fun V hV => by
        rcases hV with h | ⟨V', h, rfl⟩
        · exact (h.cell (p := ⟨rb, _, none⟩) (by show rb < _; omega)).trans g4
        · exact (h.cell (p := ⟨rb, _, none⟩) hrb).trans g4
      clear g0 g1 g2 g3 g4 hbox hown
      go_upto_region 15 with (fail)
      clear k29 hcell
      have HSZ := Lib.hid hsz
      refine wp_region_held_drew (S := fun V => Below wr.heap.size wr V ∨ (∃ V', Below w.heap.size wr V' ∧ V = V')) (by kernel_rfl) (Or.inl (Below.drew (Below.refl _ _))) (fun hH => ?_)
      have HX0 : Hid (Box2 w.heap.size w w.heap.size (w.heap.size + 1) [.int .i64 2, .int .u64 (nn : Int), .int .u64 (ec : Int), .int .u64 (sq : Int), .slice na k nc, .int .i64 0, .int .i64 0, .int .i64 0, .int .i64 0, .int .i64 0, .int .i64 0, .int .u64 0, .int .i64 0, .string ⟨#[]⟩, .int .i64 0, .int .i64 0, .string ⟨#[]⟩] wr.drew) := Lib.hid HXr.out.drew
      have HO0 : Hid (wr.drew.ownsRow (w.heap.size + 2) 42 5 (.slice na k nc) k (nwCells (nwsOf wR (rows.take k)))) := Lib.hid HO.out.drew
      have HB0 : Hid (Below wr.heap.size wr wr.drew) := Lib.hid (Below.drew (Below.refl _ _))
      have hs0 : wr.drew.heap.size = wr.heap.size := rfl
      have HS0 := Lib.hid hs0
      clear hs0 HXr HO hsz
      generalize wr.drew = V0 at *
      have q4 := HX0.out.cell 4 _ rfl
      have q4b := fun ob => ((below_al V0 ob).cell (p := ⟨w.heap.size + 1, 4, none⟩) HX0.out.hx).trans q4
      refine tk 0 (by assumption) rfl (by kernel_rfl) (fun _ _ _ h => h) (fun V hV => by go_simp; try with_reducible rfl) ?_
      try simp only [Act.put, List.setIfInBounds_toArray, List.set_cons_zero, List.set_cons_succ, List.getElem_toArray, List.getElem_cons_succ, List.getElem_cons_zero]
      refine tk 2 (by assumption) rfl (by kernel_rfl) (fun _ _ _ h => h) (fun V hV => by go_simp; try with_reducible rfl) ?_
      try simp only [Act.put, List.setIfInBounds_toArray, List.set_cons_zero, List.set_cons_succ, List.getElem_toArray, List.getElem_cons_succ, List.getElem_cons_zero]
      refine tk 3 (by assumption) rfl (by kernel_rfl) (fun _ _ _ h => h) (fun V hV => by go_simp; try with_reducible rfl) ?_
      try simp only [Act.put, List.setIfInBounds_toArray, List.set_cons_zero, List.set_cons_succ, List.getElem_toArray, List.getElem_cons_succ, List.getElem_cons_zero]
      refine tk 4 (by assumption) rfl (by kernel_rfl) (fun _ _ _ h => h) (fun V hV => by go_simp; try with_reducible rfl) ?_
      try simp only [Act.put, List.setIfInBounds_toArray, List.set_cons_zero, List.set_cons_succ, List.getElem_toArray, List.getElem_cons_succ, List.getElem_cons_zero]
      refine tk 5 (by assumption) rfl (by kernel_rfl) (fun _ _ _ h => h) (fun V hV => by have hc := K0 V hV; go_simp; try with_reducible rfl) ?_
      try simp only [Act.put, List.setIfInBounds_toArray, List.set_cons_zero, List.set_cons_succ, List.getElem_toArray, List.getElem_cons_succ, List.getElem_cons_zero]
      refine tk 7 (by assumption) rfl (by kernel_rfl) (fun _ _ _ h => h) (fun V hV => by go_simp; try with_reducible rfl) ?_
      try simp only [Act.put, List.setIfInBounds_toArray, List.set_cons_zero, List.set_cons_succ, List.getElem_toArray, List.getElem_cons_succ, List.getElem_cons_zero]
      refine tk 8 (by assumption) rfl (by kernel_rfl) (fun _ _ _ h => h) (fun V hV => by go_simp; try with_reducible rfl) ?_
      try simp only [Act.put, List.setIfInBounds_toArray, List.set_cons_zero, List.set_cons_succ, List.getElem_toArray, List.getElem_cons_succ, List.getElem_cons_zero]
      refine tk 9 (by assumption) rfl (by kernel_rfl) (fun _ _ _ h => h) (fun V hV => by go_simp; try with_reducible rfl) ?_
      try simp only [Act.put, List.setIfInBounds_toArray, List.set_cons_zero, List.set_cons_succ, List.getElem_toArray, List.getElem_cons_succ, List.getElem_cons_zero]
      refine tk 10 (by assumption) rfl (by kernel_rfl) (fun _ _ _ h => h) (fun V hV => by have hc := K1 V hV; go_simp; try with_reducible rfl) ?_
      try simp only [Act.put, List.setIfInBounds_toArray, List.set_cons_zero, List.set_cons_succ, List.getElem_toArray, List.getElem_cons_succ, List.getElem_cons_zero]
      refine tk 12 (by assumption) rfl (by kernel_rfl) (fun _ _ _ h => h) (fun V hV => by go_simp; try with_reducible rfl) ?_
      try simp only [Act.put, List.setIfInBounds_toArray, List.set_cons_zero, List.set_cons_succ, List.getElem_toArray, List.getElem_cons_succ, List.getElem_cons_zero]
      refine tk 13 (by assumption) rfl (by kernel_rfl) (fun _ _ _ h => h) (fun V hV => by go_simp; try with_reducible rfl) ?_
      try simp only [Act.put, List.setIfInBounds_toArray, List.set_cons_zero, List.set_cons_succ, List.getElem_toArray, List.getElem_cons_succ, List.getElem_cons_zero]
      refine tk 14 (by assumption) rfl (by kernel_rfl) (fun _ _ _ h => h) (fun V hV => by go_simp; try with_reducible rfl) ?_
      try simp only [Act.put, List.setIfInBounds_toArray, List.set_cons_zero, List.set_cons_succ, List.getElem_toArray, List.getElem_cons_succ, List.getElem_cons_zero]
      refine tk 15 (by assumption) rfl (by kernel_rfl) (fun _ _ _ h => h) (fun V hV => by have hc := K2 V hV; go_simp; try with_reducible rfl) ?_
      try simp only [Act.put, List.setIfInBounds_toArray, List.set_cons_zero, List.set_cons_succ, List.getElem_toArray, List.getElem_cons_succ, List.getElem_cons_zero]
      refine tk 16 (by assumption) rfl (by kernel_rfl) (fun _ _ _ h => h) (fun V hV => by go_simp; try with_reducible rfl) ?_
      try simp only [Act.put, List.setIfInBounds_toArray, List.set_cons_zero, List.set_cons_succ, List.getElem_toArray, List.getElem_cons_succ, List.getElem_cons_zero]
      refine tk 17 (by assumption) rfl (by kernel_rfl) (fun _ _ _ h => h) (fun V hV => by go_simp; try with_reducible rfl) ?_
      try simp only [Act.put, List.setIfInBounds_toArray, List.set_cons_zero, List.set_cons_succ, List.getElem_toArray, List.getElem_cons_succ, List.getElem_cons_zero]
      refine tk 18 (by assumption) rfl (by kernel_rfl) (fun _ _ _ h => h) (fun V hV => by go_simp; try with_reducible rfl) ?_
      try simp only [Act.put, List.setIfInBounds_toArray, List.set_cons_zero, List.set_cons_succ, List.getElem_toArray, List.getElem_cons_succ, List.getElem_cons_zero]
      refine tk 19 (by assumption) rfl (by kernel_rfl) (fun _ _ _ h => h) (fun V hV => by have hc := K3 V hV; go_simp; try with_reducible rfl) ?_
      try simp only [Act.put, List.setIfInBounds_toArray, List.set_cons_zero, List.set_cons_succ, List.getElem_toArray, List.getElem_cons_succ, List.getElem_cons_zero]
      refine tk 20 (by assumption) rfl (by kernel_rfl) (fun _ _ _ h => h) (fun V hV => by go_simp; try with_reducible rfl) ?_
      try simp only [Act.put, List.setIfInBounds_toArray, List.set_cons_zero, List.set_cons_succ, List.getElem_toArray, List.getElem_cons_succ, List.getElem_cons_zero]
      refine tk 21 (by assumption) rfl (by kernel_rfl) (fun _ _ _ h => h) (fun V hV => by go_simp; try with_reducible rfl) ?_
      try simp only [Act.put, List.setIfInBounds_toArray, List.set_cons_zero, List.set_cons_succ, List.getElem_toArray, List.getElem_cons_succ, List.getElem_cons_zero]
      refine tk 22 (by assumption) rfl (by kernel_rfl) (fun _ _ _ h => h) (fun V hV => by go_simp; try with_reducible rfl) ?_
      try simp only [Act.put, List.setIfInBounds_toArray, List.set_cons_zero, List.set_cons_succ, List.getElem_toArray, List.getElem_cons_succ, List.getElem_cons_zero]
      refine tk 23 (by assumption) rfl (by kernel_rfl) (fun _ _ _ h => h) (fun V hV => by have hc := K4 V hV; go_simp; try with_reducible rfl) ?_
      try simp only [Act.put, List.setIfInBounds_toArray, List.set_cons_zero, List.set_cons_succ, List.getElem_toArray, List.getElem_cons_succ, List.getElem_cons_zero]
      refine wpAnyH_ready (rs := [1, 6]) (by kernel_rfl) (by simp) ?_
      refine AllReadyH.cons (o := _) rfl (fun K hK => ?_) (AllReadyH.cons (o := _) rfl (fun K hK => ?_) AllReadyH.nil)
      · skip
        go_simp
        refine hK.out _ _ (by assumption) (fun hH => ?_)
        clear hK K
        try simp only [Act.put, List.setIfInBounds_toArray, List.set_cons_zero, List.set_cons_succ, List.getElem_toArray, List.getElem_cons_succ, List.getElem_cons_zero]
        refine wpAnyH_ready (rs := [6]) (by kernel_rfl) (by simp) ?_
        refine AllReadyH.cons (o := _) rfl (fun K hK => ?_) AllReadyH.nil
        go_simp
        refine (HW0.out _).mono ?_
        rintro e w' ⟨rfl, rfl⟩
        go_wp2_with fail
        refine hK.out _ _ (by assumption) (fun hH => ?_)
        clear hK K
        try simp only [Act.put, List.setIfInBounds_toArray, List.set_cons_zero, List.set_cons_succ, List.getElem_toArray, List.getElem_cons_succ, List.getElem_cons_zero]
        refine wpAnyH_ready (rs := [11]) (by kernel_rfl) (by simp) ?_
        refine AllReadyH.cons (o := _) rfl (fun K hK => ?_) AllReadyH.nil
        go_simp
        refine (HW1.out _).mono ?_
        rintro e w' ⟨rfl, rfl⟩
        go_wp2_with fail
        refine hK.out _ _ (by assumption) (fun hH => ?_)
        clear hK K
        try simp only [Act.put, List.setIfInBounds_toArray, List.set_cons_zero, List.set_cons_succ, List.getElem_toArray, List.getElem_cons_succ, List.getElem_cons_zero]
        refine wpAnyH_ready (rs := [24]) (by kernel_rfl) (by simp) ?_
        refine AllReadyH.cons (o := _) rfl (fun K hK => ?_) AllReadyH.nil
        go_simp
        refine (HW4.out _).mono ?_
        rintro e w' ⟨rfl, rfl⟩
        go_wp2_with fail
        refine hK.out _ _ (by assumption) (fun hH => ?_)
        clear hK K
        try simp only [Act.put, List.setIfInBounds_toArray, List.set_cons_zero, List.set_cons_succ, List.getElem_toArray, List.getElem_cons_succ, List.getElem_cons_zero]
        refine tk 25 (by assumption) rfl (by kernel_rfl) (fun _ _ _ h => h) (fun V hV => by go_simp; try with_reducible rfl) ?_
        try simp only [Act.put, List.setIfInBounds_toArray, List.set_cons_zero, List.set_cons_succ, List.getElem_toArray, List.getElem_cons_succ, List.getElem_cons_zero]
        refine wpAnyH_ready (rs := [26]) (by kernel_rfl) (by simp) ?_
        refine AllReadyH.cons (o := _) rfl (fun K hK => ?_) AllReadyH.nil
        go_simp
        refine hK.out _ _ (Or.inl (HB0.out.trans ((below_al V0 _).mono (by rw [HS0.out]; exact Nat.le_refl _)))) (fun hH => ?_)
        clear hK K
        try simp only [Act.put, List.setIfInBounds_toArray, List.set_cons_zero, List.set_cons_succ, List.getElem_toArray, List.getElem_cons_succ, List.getElem_cons_zero]
        refine wpAnyH_ready (rs := [27]) (by kernel_rfl) (by simp) ?_
        refine AllReadyH.cons (o := _) rfl (fun K hK => ?_) AllReadyH.nil
        rw [if_pos (by rfl)]
        refine wp_append_lies _ _ _ 23 rfl (w.heap.size + 2) 42 i0 z0 5 40 Tryz.underlying23 hi hz0 hz1 hz2 hz4 (by decide) (.slice na k nc) k (nwCells (nwsOf wR (rows.take k))) rfl (HO0.out.alloc _) ⟨V0.heap.size, 0, none⟩ 1 1 [.int .i64 x0, .int .i64 x1, .float .f64 y2, .float .f64 y3, .int .i64 x4] rfl rfl (fun j u hj => lit_nw V0 _ _ j u hj) (by intro v hv; simp only [List.mem_cons, List.not_mem_nil, or_false] at hv; rcases hv with rfl | rfl | rfl | rfl | rfl <;> rfl) (by decide) (by have := HN.out; have : maxLen = 9223372036854775807 := rfl; omega) (by have := HN.out; omega) (by have := HSZ.out; have := HS0.out; simp; omega) (V0.heap.size + 1) (by simp) ?_
        intro g6 cap6 V6 ho6 hg6 hl6 hlt6
        have HRW : Hid (∀ g, (Value.slice na k nc).ownBlock = some g → g ≠ w.heap.size + 1 ∧ g ≠ w.heap.size ∧ w.heap.size ≤ g) := Lib.hid (fun g hg => by have := (HO0.out.lt g hg).1; omega)
        have HX6 : Hid (Box2 w.heap.size w w.heap.size (w.heap.size + 1) [.int .i64 2, .int .u64 (nn : Int), .int .u64 (ec : Int), .int .u64 (sq : Int), .slice na k nc, .int .i64 0, .int .i64 0, .int .i64 0, .int .i64 0, .int .i64 0, .int .i64 0, .int .u64 0, .int .i64 0, .string ⟨#[]⟩, .int .i64 0, .int .i64 0, .string ⟨#[]⟩] V6) := Lib.hid (HX0.out.grown hg6 HRW.out (by have := HSZ.out; have := HS0.out; omega))
        have HG6 : Hid (w.heap.size + 2 ≤ g6) := Lib.hid (by
          rcases hl6 with h | h
          · exact (HO0.out.lt g6 h).1
          · have := HSZ.out; have := HS0.out; omega)
        have HO6 := Lib.hid ho6
        have HZ6 : Hid (w.heap.size + 2 ≤ V6.heap.size) := Lib.hid (by have := HG6.out; omega)
        have HBB : Hid (Below w.heap.size wr V6) := Lib.hid (((HB0.out.mono (by have := HSZ.out; omega)).alloc (by have := HSZ.out; have := HS0.out; omega) _).grown hg6 (by have := HSZ.out; have := HS0.out; simp; omega) (fun g hg => (HRW.out g hg).2.2))
        clear ho6 hg6 hl6 hlt6 q4 q4b
        refine hK.out _ _ (Or.inr ⟨_, HBB.out, rfl⟩) (fun hH => ?_)
        clear hK K
        try simp only [Act.put, List.setIfInBounds_toArray, List.set_cons_zero, List.set_cons_succ, List.getElem_toArray, List.getElem_cons_succ, List.getElem_cons_zero]
        refine tk 28 (by assumption) rfl (by kernel_rfl) (fun _ _ _ h => h) (fun V hV => by go_simp; try with_reducible rfl) ?_
        try simp only [Act.put, List.setIfInBounds_toArray, List.set_cons_zero, List.set_cons_succ, List.getElem_toArray, List.getElem_cons_succ, List.getElem_cons_zero]
        have q5 := HX6.out.cell 4 _ rfl
        have q6 := HX6.out.frozen 4 (by omega)
        refine wpAnyH_ready (rs := [29]) (by kernel_rfl) (by simp) ?_
        refine AllReadyH.cons (o := _) rfl (fun K hK => ?_) AllReadyH.nil
        go_simp
        have HX7 : Hid (Box2 w.heap.size w w.heap.size (w.heap.size + 1) [.int .i64 2, .int .u64 (nn : Int), .int .u64 (ec : Int), .int .u64 (sq : Int), .slice (some ⟨g6, 0, none⟩) (k + 1) cap6, .int .i64 0, .int .i64 0, .int .i64 0, .int .i64 0, .int .i64 0, .int .i64 0, .int .u64 0, .int .i64 0, .string ⟨#[]⟩, .int .i64 0, .int .i64 0, .string ⟨#[]⟩] (V6.setCell ⟨w.heap.size + 1, 4, none⟩ (.slice (some ⟨g6, 0, none⟩) (k + 1) cap6))) := Lib.hid (HX6.out.sets (Nat.le_succ _) 4 [.slice (some ⟨g6, 0, none⟩) (k + 1) cap6] (by simp) rfl)
        have HO7 : Hid ((V6.setCell ⟨w.heap.size + 1, 4, none⟩ (.slice (some ⟨g6, 0, none⟩) (k + 1) cap6)).ownsRow (w.heap.size + 2) 42 5 (.slice (some ⟨g6, 0, none⟩) (k + 1) cap6) (k + 1) (nwCells (nwsOf wR (rows.take (k + 1))))) := Lib.hid (by
          rw [HTK.out, nwCells_append]
          have e : nwCells [(⟨x0, x1, y2, y3, x4⟩ : Nw)] = [.int .i64 x0, .int .i64 x1, .float .f64 y2, .float .f64 y3, .int .i64 x4] := by simp [nwCells, nwCell]
          rw [e]
          exact own_offR [.slice (some ⟨g6, 0, none⟩) (k + 1) cap6] HO6.out (by have := HG6.out; simp [Value.ownBlock]; omega))
        have HB7 : Hid (Below w.heap.size wr (V6.setCell ⟨w.heap.size + 1, 4, none⟩ (.slice (some ⟨g6, 0, none⟩) (k + 1) cap6))) := Lib.hid (HBB.out.setCell (Nat.le_succ _) _)
        have HZ7 : Hid (w.heap.size + 2 ≤ (V6.setCell ⟨w.heap.size + 1, 4, none⟩ (.slice (some ⟨g6, 0, none⟩) (k + 1) cap6)).heap.size) := Lib.hid (by simpa [World.setCell] using HZ6.out)
        generalize V6.setCell ⟨w.heap.size + 1, 4, none⟩ (.slice (some ⟨g6, 0, none⟩) (k + 1) cap6) = V7 at *
        refine hK.out _ _ (Or.inr ⟨_, HB7.out, rfl⟩) (fun hH => ?_)
        clear hK K q5 q6
        refine wpAnyH_done (by kernel_rfl) ?_ _
        go_wp2_with fail
        refine ⟨⟨k + 1, some ⟨g6, 0, none⟩, cap6, by simp, by omega, HZ7.out, HX7.out, HO7.out⟩, ?_⟩
        simp [intOf]; omega
      · skip
        go_simp
        refine (HW0.out _).mono ?_
        rintro e w' ⟨rfl, rfl⟩
        go_wp2_with fail
        refine hK.out _ _ (by assumption) (fun hH => ?_)
        clear hK K
        try simp only [Act.put, List.setIfInBounds_toArray, List.set_cons_zero, List.set_cons_succ, List.getElem_toArray, List.getElem_cons_succ, List.getElem_cons_zero]
        refine wpAnyH_ready (rs := [1, 11]) (by kernel_rfl) (by simp) ?_
        refine AllReadyH.cons (o := _) rfl (fun K hK => ?_) (AllReadyH.cons (o := _) rfl (fun K hK => ?_) AllReadyH.nil)
        · skip
          go_simp
          refine hK.out _ _ (by assumption) (fun hH => ?_)
          clear hK K
          try simp only [Act.put, List.setIfInBounds_toArray, List.set_cons_zero, List.set_cons_succ, List.getElem_toArray, List.getElem_cons_succ, List.getElem_cons_zero]
          refine wpAnyH_ready (rs := [11]) (by kernel_rfl) (by simp) ?_
          refine AllReadyH.cons (o := _) rfl (fun K hK => ?_) AllReadyH.nil
          go_simp
          refine (HW1.out _).mono ?_
          rintro e w' ⟨rfl, rfl⟩
          go_wp2_with fail
          refine hK.out _ _ (by assumption) (fun hH => ?_)
          clear hK K
          try simp only [Act.put, List.setIfInBounds_toArray, List.set_cons_zero, List.set_cons_succ, List.getElem_toArray, List.getElem_cons_succ, List.getElem_cons_zero]
          refine wpAnyH_ready (rs := [24]) (by kernel_rfl) (by simp) ?_
          refine AllReadyH.cons (o := _) rfl (fun K hK => ?_) AllReadyH.nil
          go_simp
          refine (HW4.out _).mono ?_
          rintro e w' ⟨rfl, rfl⟩
          go_wp2_with fail
          refine hK.out _ _ (by assumption) (fun hH => ?_)
          clear hK K
          try simp only [Act.put, List.setIfInBounds_toArray, List.set_cons_zero, List.set_cons_succ, List.getElem_toArray, List.getElem_cons_succ, List.getElem_cons_zero]
          refine tk 25 (by assumption) rfl (by kernel_rfl) (fun _ _ _ h => h) (fun V hV => by go_simp; try with_reducible rfl) ?_
          try simp only [Act.put, List.setIfInBounds_toArray, List.set_cons_zero, List.set_cons_succ, List.getElem_toArray, List.getElem_cons_succ, List.getElem_cons_zero]
          refine wpAnyH_ready (rs := [26]) (by kernel_rfl) (by simp) ?_
          refine AllReadyH.cons (o := _) rfl (fun K hK => ?_) AllReadyH.nil
          go_simp
          refine hK.out _ _ (Or.inl (HB0.out.trans ((below_al V0 _).mono (by rw [HS0.out]; exact Nat.le_refl _)))) (fun hH => ?_)
          clear hK K
          try simp only [Act.put, List.setIfInBounds_toArray, List.set_cons_zero, List.set_cons_succ, List.getElem_toArray, List.getElem_cons_succ, List.getElem_cons_zero]
          refine wpAnyH_ready (rs := [27]) (by kernel_rfl) (by simp) ?_
          refine AllReadyH.cons (o := _) rfl (fun K hK => ?_) AllReadyH.nil
          rw [if_pos (by rfl)]
          refine wp_append_lies _ _ _ 23 rfl (w.heap.size + 2) 42 i0 z0 5 40 Tryz.underlying23 hi hz0 hz1 hz2 hz4 (by decide) (.slice na k nc) k (nwCells (nwsOf wR (rows.take k))) rfl (HO0.out.alloc _) ⟨V0.heap.size, 0, none⟩ 1 1 [.int .i64 x0, .int .i64 x1, .float .f64 y2, .float .f64 y3, .int .i64 x4] rfl rfl (fun j u hj => lit_nw V0 _ _ j u hj) (by intro v hv; simp only [List.mem_cons, List.not_mem_nil, or_false] at hv; rcases hv with rfl | rfl | rfl | rfl | rfl <;> rfl) (by decide) (by have := HN.out; have : maxLen = 9223372036854775807 := rfl; omega) (by have := HN.out; omega) (by have := HSZ.out; have := HS0.out; simp; omega) (V0.heap.size + 1) (by simp) ?_
          intro g6 cap6 V6 ho6 hg6 hl6 hlt6
          have HRW : Hid (∀ g, (Value.slice na k nc).ownBlock = some g → g ≠ w.heap.size + 1 ∧ g ≠ w.heap.size ∧ w.heap.size ≤ g) := Lib.hid (fun g hg => by have := (HO0.out.lt g hg).1; omega)
          have HX6 : Hid (Box2 w.heap.size w w.heap.size (w.heap.size + 1) [.int .i64 2, .int .u64 (nn : Int), .int .u64 (ec : Int), .int .u64 (sq : Int), .slice na k nc, .int .i64 0, .int .i64 0, .int .i64 0, .int .i64 0, .int .i64 0, .int .i64 0, .int .u64 0, .int .i64 0, .string ⟨#[]⟩, .int .i64 0, .int .i64 0, .string ⟨#[]⟩] V6) := Lib.hid (HX0.out.grown hg6 HRW.out (by have := HSZ.out; have := HS0.out; omega))
          have HG6 : Hid (w.heap.size + 2 ≤ g6) := Lib.hid (by
            rcases hl6 with h | h
            · exact (HO0.out.lt g6 h).1
            · have := HSZ.out; have := HS0.out; omega)
          have HO6 := Lib.hid ho6
          have HZ6 : Hid (w.heap.size + 2 ≤ V6.heap.size) := Lib.hid (by have := HG6.out; omega)
          have HBB : Hid (Below w.heap.size wr V6) := Lib.hid (((HB0.out.mono (by have := HSZ.out; omega)).alloc (by have := HSZ.out; have := HS0.out; omega) _).grown hg6 (by have := HSZ.out; have := HS0.out; simp; omega) (fun g hg => (HRW.out g hg).2.2))
          clear ho6 hg6 hl6 hlt6 q4 q4b
          refine hK.out _ _ (Or.inr ⟨_, HBB.out, rfl⟩) (fun hH => ?_)
          clear hK K
          try simp only [Act.put, List.setIfInBounds_toArray, List.set_cons_zero, List.set_cons_succ, List.getElem_toArray, List.getElem_cons_succ, List.getElem_cons_zero]
          refine tk 28 (by assumption) rfl (by kernel_rfl) (fun _ _ _ h => h) (fun V hV => by go_simp; try with_reducible rfl) ?_
          try simp only [Act.put, List.setIfInBounds_toArray, List.set_cons_zero, List.set_cons_succ, List.getElem_toArray, List.getElem_cons_succ, List.getElem_cons_zero]
          have q5 := HX6.out.cell 4 _ rfl
          have q6 := HX6.out.frozen 4 (by omega)
          refine wpAnyH_ready (rs := [29]) (by kernel_rfl) (by simp) ?_
          refine AllReadyH.cons (o := _) rfl (fun K hK => ?_) AllReadyH.nil
          go_simp
          have HX7 : Hid (Box2 w.heap.size w w.heap.size (w.heap.size + 1) [.int .i64 2, .int .u64 (nn : Int), .int .u64 (ec : Int), .int .u64 (sq : Int), .slice (some ⟨g6, 0, none⟩) (k + 1) cap6, .int .i64 0, .int .i64 0, .int .i64 0, .int .i64 0, .int .i64 0, .int .i64 0, .int .u64 0, .int .i64 0, .string ⟨#[]⟩, .int .i64 0, .int .i64 0, .string ⟨#[]⟩] (V6.setCell ⟨w.heap.size + 1, 4, none⟩ (.slice (some ⟨g6, 0, none⟩) (k + 1) cap6))) := Lib.hid (HX6.out.sets (Nat.le_succ _) 4 [.slice (some ⟨g6, 0, none⟩) (k + 1) cap6] (by simp) rfl)
          have HO7 : Hid ((V6.setCell ⟨w.heap.size + 1, 4, none⟩ (.slice (some ⟨g6, 0, none⟩) (k + 1) cap6)).ownsRow (w.heap.size + 2) 42 5 (.slice (some ⟨g6, 0, none⟩) (k + 1) cap6) (k + 1) (nwCells (nwsOf wR (rows.take (k + 1))))) := Lib.hid (by
            rw [HTK.out, nwCells_append]
            have e : nwCells [(⟨x0, x1, y2, y3, x4⟩ : Nw)] = [.int .i64 x0, .int .i64 x1, .float .f64 y2, .float .f64 y3, .int .i64 x4] := by simp [nwCells, nwCell]
            rw [e]
            exact own_offR [.slice (some ⟨g6, 0, none⟩) (k + 1) cap6] HO6.out (by have := HG6.out; simp [Value.ownBlock]; omega))
          have HB7 : Hid (Below w.heap.size wr (V6.setCell ⟨w.heap.size + 1, 4, none⟩ (.slice (some ⟨g6, 0, none⟩) (k + 1) cap6))) := Lib.hid (HBB.out.setCell (Nat.le_succ _) _)
          have HZ7 : Hid (w.heap.size + 2 ≤ (V6.setCell ⟨w.heap.size + 1, 4, none⟩ (.slice (some ⟨g6, 0, none⟩) (k + 1) cap6)).heap.size) := Lib.hid (by simpa [World.setCell] using HZ6.out)
          generalize V6.setCell ⟨w.heap.size + 1, 4, none⟩ (.slice (some ⟨g6, 0, none⟩) (k + 1) cap6) = V7 at *
          refine hK.out _ _ (Or.inr ⟨_, HB7.out, rfl⟩) (fun hH => ?_)
          clear hK K q5 q6
          refine wpAnyH_done (by kernel_rfl) ?_ _
          go_wp2_with fail
          refine ⟨⟨k + 1, some ⟨g6, 0, none⟩, cap6, by simp, by omega, HZ7.out, HX7.out, HO7.out⟩, ?_⟩
          simp [intOf]; omega
        · skip
          go_simp
          refine (HW1.out _).mono ?_
          rintro e w' ⟨rfl, rfl⟩
          go_wp2_with fail
          refine hK.out _ _ (by assumption) (fun hH => ?_)
          clear hK K
          try simp only [Act.put, List.setIfInBounds_toArray, List.set_cons_zero, List.set_cons_succ, List.getElem_toArray, List.getElem_cons_succ, List.getElem_cons_zero]
          refine wpAnyH_ready (rs := [1, 24]) (by kernel_rfl) (by simp) ?_
          refine AllReadyH.cons (o := _) rfl (fun K hK => ?_) (AllReadyH.cons (o := _) rfl (fun K hK => ?_) AllReadyH.nil)
          · skip
            go_simp
            refine hK.out _ _ (by assumption) (fun hH => ?_)
            clear hK K
            try simp only [Act.put, List.setIfInBounds_toArray, List.set_cons_zero, List.set_cons_succ, List.getElem_toArray, List.getElem_cons_succ, List.getElem_cons_zero]
            refine wpAnyH_ready (rs := [24]) (by kernel_rfl) (by simp) ?_
            refine AllReadyH.cons (o := _) rfl (fun K hK => ?_) AllReadyH.nil
            go_simp
            refine (HW4.out _).mono ?_
            rintro e w' ⟨rfl, rfl⟩
            go_wp2_with fail
            refine hK.out _ _ (by assumption) (fun hH => ?_)
            clear hK K
            try simp only [Act.put, List.setIfInBounds_toArray, List.set_cons_zero, List.set_cons_succ, List.getElem_toArray, List.getElem_cons_succ, List.getElem_cons_zero]
            refine tk 25 (by assumption) rfl (by kernel_rfl) (fun _ _ _ h => h) (fun V hV => by go_simp; try with_reducible rfl) ?_
            try simp only [Act.put, List.setIfInBounds_toArray, List.set_cons_zero, List.set_cons_succ, List.getElem_toArray, List.getElem_cons_succ, List.getElem_cons_zero]
            refine wpAnyH_ready (rs := [26]) (by kernel_rfl) (by simp) ?_
            refine AllReadyH.cons (o := _) rfl (fun K hK => ?_) AllReadyH.nil
            go_simp
            refine hK.out _ _ (Or.inl (HB0.out.trans ((below_al V0 _).mono (by rw [HS0.out]; exact Nat.le_refl _)))) (fun hH => ?_)
            clear hK K
            try simp only [Act.put, List.setIfInBounds_toArray, List.set_cons_zero, List.set_cons_succ, List.getElem_toArray, List.getElem_cons_succ, List.getElem_cons_zero]
            refine wpAnyH_ready (rs := [27]) (by kernel_rfl) (by simp) ?_
            refine AllReadyH.cons (o := _) rfl (fun K hK => ?_) AllReadyH.nil
            rw [if_pos (by rfl)]
            refine wp_append_lies _ _ _ 23 rfl (w.heap.size + 2) 42 i0 z0 5 40 Tryz.underlying23 hi hz0 hz1 hz2 hz4 (by decide) (.slice na k nc) k (nwCells (nwsOf wR (rows.take k))) rfl (HO0.out.alloc _) ⟨V0.heap.size, 0, none⟩ 1 1 [.int .i64 x0, .int .i64 x1, .float .f64 y2, .float .f64 y3, .int .i64 x4] rfl rfl (fun j u hj => lit_nw V0 _ _ j u hj) (by intro v hv; simp only [List.mem_cons, List.not_mem_nil, or_false] at hv; rcases hv with rfl | rfl | rfl | rfl | rfl <;> rfl) (by decide) (by have := HN.out; have : maxLen = 9223372036854775807 := rfl; omega) (by have := HN.out; omega) (by have := HSZ.out; have := HS0.out; simp; omega) (V0.heap.size + 1) (by simp) ?_
            intro g6 cap6 V6 ho6 hg6 hl6 hlt6
            have HRW : Hid (∀ g, (Value.slice na k nc).ownBlock = some g → g ≠ w.heap.size + 1 ∧ g ≠ w.heap.size ∧ w.heap.size ≤ g) := Lib.hid (fun g hg => by have := (HO0.out.lt g hg).1; omega)
            have HX6 : Hid (Box2 w.heap.size w w.heap.size (w.heap.size + 1) [.int .i64 2, .int .u64 (nn : Int), .int .u64 (ec : Int), .int .u64 (sq : Int), .slice na k nc, .int .i64 0, .int .i64 0, .int .i64 0, .int .i64 0, .int .i64 0, .int .i64 0, .int .u64 0, .int .i64 0, .string ⟨#[]⟩, .int .i64 0, .int .i64 0, .string ⟨#[]⟩] V6) := Lib.hid (HX0.out.grown hg6 HRW.out (by have := HSZ.out; have := HS0.out; omega))
            have HG6 : Hid (w.heap.size + 2 ≤ g6) := Lib.hid (by
              rcases hl6 with h | h
              · exact (HO0.out.lt g6 h).1
              · have := HSZ.out; have := HS0.out; omega)
            have HO6 := Lib.hid ho6
            have HZ6 : Hid (w.heap.size + 2 ≤ V6.heap.size) := Lib.hid (by have := HG6.out; omega)
            have HBB : Hid (Below w.heap.size wr V6) := Lib.hid (((HB0.out.mono (by have := HSZ.out; omega)).alloc (by have := HSZ.out; have := HS0.out; omega) _).grown hg6 (by have := HSZ.out; have := HS0.out; simp; omega) (fun g hg => (HRW.out g hg).2.2))
            clear ho6 hg6 hl6 hlt6 q4 q4b
            refine hK.out _ _ (Or.inr ⟨_, HBB.out, rfl⟩) (fun hH => ?_)
            clear hK K
            try simp only [Act.put, List.setIfInBounds_toArray, List.set_cons_zero, List.set_cons_succ, List.getElem_toArray, List.getElem_cons_succ, List.getElem_cons_zero]
            refine tk 28 (by assumption) rfl (by kernel_rfl) (fun _ _ _ h => h) (fun V hV => by go_simp; try with_reducible rfl) ?_
            try simp only [Act.put, List.setIfInBounds_toArray, List.set_cons_zero, List.set_cons_succ, List.getElem_toArray, List.getElem_cons_succ, List.getElem_cons_zero]
            have q5 := HX6.out.cell 4 _ rfl
            have q6 := HX6.out.frozen 4 (by omega)
            refine wpAnyH_ready (rs := [29]) (by kernel_rfl) (by simp) ?_
            refine AllReadyH.cons (o := _) rfl (fun K hK => ?_) AllReadyH.nil
            go_simp
            have HX7 : Hid (Box2 w.heap.size w w.heap.size (w.heap.size + 1) [.int .i64 2, .int .u64 (nn : Int), .int .u64 (ec : Int), .int .u64 (sq : Int), .slice (some ⟨g6, 0, none⟩) (k + 1) cap6, .int .i64 0, .int .i64 0, .int .i64 0, .int .i64 0, .int .i64 0, .int .i64 0, .int .u64 0, .int .i64 0, .string ⟨#[]⟩, .int .i64 0, .int .i64 0, .string ⟨#[]⟩] (V6.setCell ⟨w.heap.size + 1, 4, none⟩ (.slice (some ⟨g6, 0, none⟩) (k + 1) cap6))) := Lib.hid (HX6.out.sets (Nat.le_succ _) 4 [.slice (some ⟨g6, 0, none⟩) (k + 1) cap6] (by simp) rfl)
            have HO7 : Hid ((V6.setCell ⟨w.heap.size + 1, 4, none⟩ (.slice (some ⟨g6, 0, none⟩) (k + 1) cap6)).ownsRow (w.heap.size + 2) 42 5 (.slice (some ⟨g6, 0, none⟩) (k + 1) cap6) (k + 1) (nwCells (nwsOf wR (rows.take (k + 1))))) := Lib.hid (by
              rw [HTK.out, nwCells_append]
              have e : nwCells [(⟨x0, x1, y2, y3, x4⟩ : Nw)] = [.int .i64 x0, .int .i64 x1, .float .f64 y2, .float .f64 y3, .int .i64 x4] := by simp [nwCells, nwCell]
              rw [e]
              exact own_offR [.slice (some ⟨g6, 0, none⟩) (k + 1) cap6] HO6.out (by have := HG6.out; simp [Value.ownBlock]; omega))
            have HB7 : Hid (Below w.heap.size wr (V6.setCell ⟨w.heap.size + 1, 4, none⟩ (.slice (some ⟨g6, 0, none⟩) (k + 1) cap6))) := Lib.hid (HBB.out.setCell (Nat.le_succ _) _)
            have HZ7 : Hid (w.heap.size + 2 ≤ (V6.setCell ⟨w.heap.size + 1, 4, none⟩ (.slice (some ⟨g6, 0, none⟩) (k + 1) cap6)).heap.size) := Lib.hid (by simpa [World.setCell] using HZ6.out)
            generalize V6.setCell ⟨w.heap.size + 1, 4, none⟩ (.slice (some ⟨g6, 0, none⟩) (k + 1) cap6) = V7 at *
            refine hK.out _ _ (Or.inr ⟨_, HB7.out, rfl⟩) (fun hH => ?_)
            clear hK K q5 q6
            refine wpAnyH_done (by kernel_rfl) ?_ _
            go_wp2_with fail
            refine ⟨⟨k + 1, some ⟨g6, 0, none⟩, cap6, by simp, by omega, HZ7.out, HX7.out, HO7.out⟩, ?_⟩
            simp [intOf]; omega
          · skip
            go_simp
            refine (HW4.out _).mono ?_
            rintro e w' ⟨rfl, rfl⟩
            go_wp2_with fail
            refine hK.out _ _ (by assumption) (fun hH => ?_)
            clear hK K
            try simp only [Act.put, List.setIfInBounds_toArray, List.set_cons_zero, List.set_cons_succ, List.getElem_toArray, List.getElem_cons_succ, List.getElem_cons_zero]
            refine tk 25 (by assumption) rfl (by kernel_rfl) (fun _ _ _ h => h) (fun V hV => by go_simp; try with_reducible rfl) ?_
            try simp only [Act.put, List.setIfInBounds_toArray, List.set_cons_zero, List.set_cons_succ, List.getElem_toArray, List.getElem_cons_succ, List.getElem_cons_zero]
            refine wpAnyH_ready (rs := [1, 26]) (by kernel_rfl) (by simp) ?_
            refine AllReadyH.cons (o := _) rfl (fun K hK => ?_) (AllReadyH.cons (o := _) rfl (fun K hK => ?_) AllReadyH.nil)
            · skip
              go_simp
              refine hK.out _ _ (by assumption) (fun hH => ?_)
              clear hK K
              try simp only [Act.put, List.setIfInBounds_toArray, List.set_cons_zero, List.set_cons_succ, List.getElem_toArray, List.getElem_cons_succ, List.getElem_cons_zero]
              refine wpAnyH_ready (rs := [26]) (by kernel_rfl) (by simp) ?_
              refine AllReadyH.cons (o := _) rfl (fun K hK => ?_) AllReadyH.nil
              go_simp
              refine hK.out _ _ (Or.inl (HB0.out.trans ((below_al V0 _).mono (by rw [HS0.out]; exact Nat.le_refl _)))) (fun hH => ?_)
              clear hK K
              try simp only [Act.put, List.setIfInBounds_toArray, List.set_cons_zero, List.set_cons_succ, List.getElem_toArray, List.getElem_cons_succ, List.getElem_cons_zero]
              refine wpAnyH_ready (rs := [27]) (by kernel_rfl) (by simp) ?_
              refine AllReadyH.cons (o := _) rfl (fun K hK => ?_) AllReadyH.nil
              rw [if_pos (by rfl)]
              refine wp_append_lies _ _ _ 23 rfl (w.heap.size + 2) 42 i0 z0 5 40 Tryz.underlying23 hi hz0 hz1 hz2 hz4 (by decide) (.slice na k nc) k (nwCells (nwsOf wR (rows.take k))) rfl (HO0.out.alloc _) ⟨V0.heap.size, 0, none⟩ 1 1 [.int .i64 x0, .int .i64 x1, .float .f64 y2, .float .f64 y3, .int .i64 x4] rfl rfl (fun j u hj => lit_nw V0 _ _ j u hj) (by intro v hv; simp only [List.mem_cons, List.not_mem_nil, or_false] at hv; rcases hv with rfl | rfl | rfl | rfl | rfl <;> rfl) (by decide) (by have := HN.out; have : maxLen = 9223372036854775807 := rfl; omega) (by have := HN.out; omega) (by have := HSZ.out; have := HS0.out; simp; omega) (V0.heap.size + 1) (by simp) ?_
              intro g6 cap6 V6 ho6 hg6 hl6 hlt6
              have HRW : Hid (∀ g, (Value.slice na k nc).ownBlock = some g → g ≠ w.heap.size + 1 ∧ g ≠ w.heap.size ∧ w.heap.size ≤ g) := Lib.hid (fun g hg => by have := (HO0.out.lt g hg).1; omega)
              have HX6 : Hid (Box2 w.heap.size w w.heap.size (w.heap.size + 1) [.int .i64 2, .int .u64 (nn : Int), .int .u64 (ec : Int), .int .u64 (sq : Int), .slice na k nc, .int .i64 0, .int .i64 0, .int .i64 0, .int .i64 0, .int .i64 0, .int .i64 0, .int .u64 0, .int .i64 0, .string ⟨#[]⟩, .int .i64 0, .int .i64 0, .string ⟨#[]⟩] V6) := Lib.hid (HX0.out.grown hg6 HRW.out (by have := HSZ.out; have := HS0.out; omega))
              have HG6 : Hid (w.heap.size + 2 ≤ g6) := Lib.hid (by
                rcases hl6 with h | h
                · exact (HO0.out.lt g6 h).1
                · have := HSZ.out; have := HS0.out; omega)
              have HO6 := Lib.hid ho6
              have HZ6 : Hid (w.heap.size + 2 ≤ V6.heap.size) := Lib.hid (by have := HG6.out; omega)
              have HBB : Hid (Below w.heap.size wr V6) := Lib.hid (((HB0.out.mono (by have := HSZ.out; omega)).alloc (by have := HSZ.out; have := HS0.out; omega) _).grown hg6 (by have := HSZ.out; have := HS0.out; simp; omega) (fun g hg => (HRW.out g hg).2.2))
              clear ho6 hg6 hl6 hlt6 q4 q4b
              refine hK.out _ _ (Or.inr ⟨_, HBB.out, rfl⟩) (fun hH => ?_)
              clear hK K
              try simp only [Act.put, List.setIfInBounds_toArray, List.set_cons_zero, List.set_cons_succ, List.getElem_toArray, List.getElem_cons_succ, List.getElem_cons_zero]
              refine tk 28 (by assumption) rfl (by kernel_rfl) (fun _ _ _ h => h) (fun V hV => by go_simp; try with_reducible rfl) ?_
              try simp only [Act.put, List.setIfInBounds_toArray, List.set_cons_zero, List.set_cons_succ, List.getElem_toArray, List.getElem_cons_succ, List.getElem_cons_zero]
              have q5 := HX6.out.cell 4 _ rfl
              have q6 := HX6.out.frozen 4 (by omega)
              refine wpAnyH_ready (rs := [29]) (by kernel_rfl) (by simp) ?_
              refine AllReadyH.cons (o := _) rfl (fun K hK => ?_) AllReadyH.nil
              go_simp
              have HX7 : Hid (Box2 w.heap.size w w.heap.size (w.heap.size + 1) [.int .i64 2, .int .u64 (nn : Int), .int .u64 (ec : Int), .int .u64 (sq : Int), .slice (some ⟨g6, 0, none⟩) (k + 1) cap6, .int .i64 0, .int .i64 0, .int .i64 0, .int .i64 0, .int .i64 0, .int .i64 0, .int .u64 0, .int .i64 0, .string ⟨#[]⟩, .int .i64 0, .int .i64 0, .string ⟨#[]⟩] (V6.setCell ⟨w.heap.size + 1, 4, none⟩ (.slice (some ⟨g6, 0, none⟩) (k + 1) cap6))) := Lib.hid (HX6.out.sets (Nat.le_succ _) 4 [.slice (some ⟨g6, 0, none⟩) (k + 1) cap6] (by simp) rfl)
              have HO7 : Hid ((V6.setCell ⟨w.heap.size + 1, 4, none⟩ (.slice (some ⟨g6, 0, none⟩) (k + 1) cap6)).ownsRow (w.heap.size + 2) 42 5 (.slice (some ⟨g6, 0, none⟩) (k + 1) cap6) (k + 1) (nwCells (nwsOf wR (rows.take (k + 1))))) := Lib.hid (by
                rw [HTK.out, nwCells_append]
                have e : nwCells [(⟨x0, x1, y2, y3, x4⟩ : Nw)] = [.int .i64 x0, .int .i64 x1, .float .f64 y2, .float .f64 y3, .int .i64 x4] := by simp [nwCells, nwCell]
                rw [e]
                exact own_offR [.slice (some ⟨g6, 0, none⟩) (k + 1) cap6] HO6.out (by have := HG6.out; simp [Value.ownBlock]; omega))
              have HB7 : Hid (Below w.heap.size wr (V6.setCell ⟨w.heap.size + 1, 4, none⟩ (.slice (some ⟨g6, 0, none⟩) (k + 1) cap6))) := Lib.hid (HBB.out.setCell (Nat.le_succ _) _)
              have HZ7 : Hid (w.heap.size + 2 ≤ (V6.setCell ⟨w.heap.size + 1, 4, none⟩ (.slice (some ⟨g6, 0, none⟩) (k + 1) cap6)).heap.size) := Lib.hid (by simpa [World.setCell] using HZ6.out)
              generalize V6.setCell ⟨w.heap.size + 1, 4, none⟩ (.slice (some ⟨g6, 0, none⟩) (k + 1) cap6) = V7 at *
              refine hK.out _ _ (Or.inr ⟨_, HB7.out, rfl⟩) (fun hH => ?_)
              clear hK K q5 q6
              refine wpAnyH_done (by kernel_rfl) ?_ _
              go_wp2_with fail
              refine ⟨⟨k + 1, some ⟨g6, 0, none⟩, cap6, by simp, by omega, HZ7.out, HX7.out, HO7.out⟩, ?_⟩
              simp [intOf]; omega
            · skip
              go_simp
              refine hK.out _ _ (Or.inl (HB0.out.trans ((below_al V0 _).mono (by rw [HS0.out]; exact Nat.le_refl _)))) (fun hH => ?_)
              clear hK K
              try simp only [Act.put, List.setIfInBounds_toArray, List.set_cons_zero, List.set_cons_succ, List.getElem_toArray, List.getElem_cons_succ, List.getElem_cons_zero]
              refine wpAnyH_ready (rs := [1]) (by kernel_rfl) (by simp) ?_
              refine AllReadyH.cons (o := _) rfl (fun K hK => ?_) AllReadyH.nil
              go_simp
              refine hK.out _ _ (by assumption) (fun hH => ?_)
              clear hK K
              try simp only [Act.put, List.setIfInBounds_toArray, List.set_cons_zero, List.set_cons_succ, List.getElem_toArray, List.getElem_cons_succ, List.getElem_cons_zero]
              refine wpAnyH_ready (rs := [27]) (by kernel_rfl) (by simp) ?_
              refine AllReadyH.cons (o := _) rfl (fun K hK => ?_) AllReadyH.nil
              rw [if_pos (by rfl)]
              refine wp_append_lies _ _ _ 23 rfl (w.heap.size + 2) 42 i0 z0 5 40 Tryz.underlying23 hi hz0 hz1 hz2 hz4 (by decide) (.slice na k nc) k (nwCells (nwsOf wR (rows.take k))) rfl (HO0.out.alloc _) ⟨V0.heap.size, 0, none⟩ 1 1 [.int .i64 x0, .int .i64 x1, .float .f64 y2, .float .f64 y3, .int .i64 x4] rfl rfl (fun j u hj => lit_nw V0 _ _ j u hj) (by intro v hv; simp only [List.mem_cons, List.not_mem_nil, or_false] at hv; rcases hv with rfl | rfl | rfl | rfl | rfl <;> rfl) (by decide) (by have := HN.out; have : maxLen = 9223372036854775807 := rfl; omega) (by have := HN.out; omega) (by have := HSZ.out; have := HS0.out; simp; omega) (V0.heap.size + 1) (by simp) ?_
              intro g6 cap6 V6 ho6 hg6 hl6 hlt6
              have HRW : Hid (∀ g, (Value.slice na k nc).ownBlock = some g → g ≠ w.heap.size + 1 ∧ g ≠ w.heap.size ∧ w.heap.size ≤ g) := Lib.hid (fun g hg => by have := (HO0.out.lt g hg).1; omega)
              have HX6 : Hid (Box2 w.heap.size w w.heap.size (w.heap.size + 1) [.int .i64 2, .int .u64 (nn : Int), .int .u64 (ec : Int), .int .u64 (sq : Int), .slice na k nc, .int .i64 0, .int .i64 0, .int .i64 0, .int .i64 0, .int .i64 0, .int .i64 0, .int .u64 0, .int .i64 0, .string ⟨#[]⟩, .int .i64 0, .int .i64 0, .string ⟨#[]⟩] V6) := Lib.hid (HX0.out.grown hg6 HRW.out (by have := HSZ.out; have := HS0.out; omega))
              have HG6 : Hid (w.heap.size + 2 ≤ g6) := Lib.hid (by
                rcases hl6 with h | h
                · exact (HO0.out.lt g6 h).1
                · have := HSZ.out; have := HS0.out; omega)
              have HO6 := Lib.hid ho6
              have HZ6 : Hid (w.heap.size + 2 ≤ V6.heap.size) := Lib.hid (by have := HG6.out; omega)
              have HBB : Hid (Below w.heap.size wr V6) := Lib.hid (((HB0.out.mono (by have := HSZ.out; omega)).alloc (by have := HSZ.out; have := HS0.out; omega) _).grown hg6 (by have := HSZ.out; have := HS0.out; simp; omega) (fun g hg => (HRW.out g hg).2.2))
              clear ho6 hg6 hl6 hlt6 q4 q4b
              refine hK.out _ _ (Or.inr ⟨_, HBB.out, rfl⟩) (fun hH => ?_)
              clear hK K
              try simp only [Act.put, List.setIfInBounds_toArray, List.set_cons_zero, List.set_cons_succ, List.getElem_toArray, List.getElem_cons_succ, List.getElem_cons_zero]
              refine tk 28 (by assumption) rfl (by kernel_rfl) (fun _ _ _ h => h) (fun V hV => by go_simp; try with_reducible rfl) ?_
              try simp only [Act.put, List.setIfInBounds_toArray, List.set_cons_zero, List.set_cons_succ, List.getElem_toArray, List.getElem_cons_succ, List.getElem_cons_zero]
              have q5 := HX6.out.cell 4 _ rfl
              have q6 := HX6.out.frozen 4 (by omega)
              refine wpAnyH_ready (rs := [29]) (by kernel_rfl) (by simp) ?_
              refine AllReadyH.cons (o := _) rfl (fun K hK => ?_) AllReadyH.nil
              go_simp
              have HX7 : Hid (Box2 w.heap.size w w.heap.size (w.heap.size + 1) [.int .i64 2, .int .u64 (nn : Int), .int .u64 (ec : Int), .int .u64 (sq : Int), .slice (some ⟨g6, 0, none⟩) (k + 1) cap6, .int .i64 0, .int .i64 0, .int .i64 0, .int .i64 0, .int .i64 0, .int .i64 0, .int .u64 0, .int .i64 0, .string ⟨#[]⟩, .int .i64 0, .int .i64 0, .string ⟨#[]⟩] (V6.setCell ⟨w.heap.size + 1, 4, none⟩ (.slice (some ⟨g6, 0, none⟩) (k + 1) cap6))) := Lib.hid (HX6.out.sets (Nat.le_succ _) 4 [.slice (some ⟨g6, 0, none⟩) (k + 1) cap6] (by simp) rfl)
              have HO7 : Hid ((V6.setCell ⟨w.heap.size + 1, 4, none⟩ (.slice (some ⟨g6, 0, none⟩) (k + 1) cap6)).ownsRow (w.heap.size + 2) 42 5 (.slice (some ⟨g6, 0, none⟩) (k + 1) cap6) (k + 1) (nwCells (nwsOf wR (rows.take (k + 1))))) := Lib.hid (by
                rw [HTK.out, nwCells_append]
                have e : nwCells [(⟨x0, x1, y2, y3, x4⟩ : Nw)] = [.int .i64 x0, .int .i64 x1, .float .f64 y2, .float .f64 y3, .int .i64 x4] := by simp [nwCells, nwCell]
                rw [e]
                exact own_offR [.slice (some ⟨g6, 0, none⟩) (k + 1) cap6] HO6.out (by have := HG6.out; simp [Value.ownBlock]; omega))
              have HB7 : Hid (Below w.heap.size wr (V6.setCell ⟨w.heap.size + 1, 4, none⟩ (.slice (some ⟨g6, 0, none⟩) (k + 1) cap6))) := Lib.hid (HBB.out.setCell (Nat.le_succ _) _)
              have HZ7 : Hid (w.heap.size + 2 ≤ (V6.setCell ⟨w.heap.size + 1, 4, none⟩ (.slice (some ⟨g6, 0, none⟩) (k + 1) cap6)).heap.size) := Lib.hid (by simpa [World.setCell] using HZ6.out)
              generalize V6.setCell ⟨w.heap.size + 1, 4, none⟩ (.slice (some ⟨g6, 0, none⟩) (k + 1) cap6) = V7 at *
              refine hK.out _ _ (Or.inr ⟨_, HB7.out, rfl⟩) (fun hH => ?_)
              clear hK K q5 q6
              refine wpAnyH_done (by kernel_rfl) ?_ _
              go_wp2_with fail
              refine ⟨⟨k + 1, some ⟨g6, 0, none⟩, cap6, by simp, by omega, HZ7.out, HX7.out, HO7.out⟩, ?_⟩
              simp [intOf]; omega
    · obtain rfl : k = rows.length := by omega
      have hki : ¬ ((rows.length : Nat) : Int) < (rows.length : Int) := by omega
      have hno : ∀ g, (Value.slice na rows.length nc).ownBlock = some g → w.heap.size + 2 ≤ g := fun g hg => (hown.lt g hg).1
      have HNO := Lib.hid hno
      have HOW : Hid (NewsOwn wr (w.heap.size + 2) (nwsOf wR rows) na nc) := Lib.hid (by unfold NewsOwn; rw [nws_len]; rw [List.take_length] at hown; exact hown)
      have HLEN : Hid ((nwsOf wR rows).length = rows.length) := Lib.hid nws_len
      clear hno hown hbox
      go_upto_region 16 with (fail)
      clear k29
      refine wp_region_list ?_
      refine wpList_load_guard (by kernel_rfl) 27 (.tmp 5) rfl (w.heap.size + 1) 0 rfl [.int .i64 2, .int .u64 (nn : Int), .int .u64 (ec : Int), .int .u64 (sq : Int), .slice na rows.length nc, .int .i64 0, .int .i64 0, .int .i64 0, .int .i64 0, .int .i64 0, .int .i64 0, .int .u64 0, .int .i64 0, .string ⟨#[]⟩, .int .i64 0, .int .i64 0, .string ⟨#[]⟩] _ HXr.out.at_ Tryz.underlying27 (by rfl) (by kernel_rfl) ?_
      try simp only [Act.put, List.setIfInBounds_toArray, List.set_cons_zero, List.set_cons_succ, List.getElem_toArray, List.getElem_cons_succ, List.getElem_cons_zero]
      refine wpList_store_mid rfl 27 _ _ rfl w.heap.size 0 #[.int .i64 2, .int .u64 (nn : Int), .int .u64 (ec : Int), .int .u64 (sq : Int), .slice na rows.length nc, .int .i64 0, .int .i64 0, .int .i64 0, .int .i64 0, .int .i64 0, .int .i64 0, .int .u64 0, .int .i64 0, .string ⟨#[]⟩, .int .i64 0, .int .i64 0, .string ⟨#[]⟩] rfl rfl HXr.out.t2 (by kernel_rfl) (all_oneCell_toArray (cs := [.int .i64 2, .int .u64 (nn : Int), .int .u64 (ec : Int), .int .u64 (sq : Int), .slice na rows.length nc, .int .i64 0, .int .i64 0, .int .i64 0, .int .i64 0, .int .i64 0, .int .i64 0, .int .u64 0, .int .i64 0, .string ⟨#[]⟩, .int .i64 0, .int .i64 0, .string ⟨#[]⟩]) (by intro v hv; simp only [List.mem_cons, List.not_mem_nil, or_false] at hv; rcases hv with rfl | rfl | rfl | rfl | rfl | rfl | rfl | rfl | rfl | rfl | rfl | rfl | rfl | rfl | rfl | rfl | rfl <;> rfl)) ?_
      obtain ⟨R, hbl⟩ := HXr.out.out (Nat.le_refl _) rfl
      have hown := own_le (own_off0 (x := w.heap.size) [.int .i64 2, .int .u64 (nn : Int), .int .u64 (ec : Int), .int .u64 (sq : Int), .slice na rows.length nc, .int .i64 0, .int .i64 0, .int .i64 0, .int .i64 0, .int .i64 0, .int .i64 0, .int .u64 0, .int .i64 0, .string ⟨#[]⟩, .int .i64 0, .int .i64 0, .string ⟨#[]⟩] HOW.out (fun e => by rw [HLEN.out] at e; have := HNO.out _ e; omega)) (show w.heap.size ≤ w.heap.size + 2 by omega)
      generalize wr.setCells w.heap.size 0 [.int .i64 2, .int .u64 (nn : Int), .int .u64 (ec : Int), .int .u64 (sq : Int), .slice na rows.length nc, .int .i64 0, .int .i64 0, .int .i64 0, .int .i64 0, .int .i64 0, .int .i64 0, .int .u64 0, .int .i64 0, .string ⟨#[]⟩, .int .i64 0, .int .i64 0, .string ⟨#[]⟩] = Vz at *
      try simp only [Act.put, List.setIfInBounds_toArray, List.set_cons_zero, List.set_cons_succ, List.getElem_toArray, List.getElem_cons_succ, List.getElem_cons_zero]
      refine wpList_nil ?_
      go_wp2_with fail
      refine bodyPost_ret (results_cell Tryz.results30 _ Vz w.heap.size 0 [.int .i64 2, .int .u64 (nn : Int), .int .u64 (ec : Int), .int .u64 (sq : Int), .slice na rows.length nc, .int .i64 0, .int .i64 0, .int .i64 0, .int .i64 0, .int .i64 0, .int .i64 0, .int .u64 0, .int .i64 0, .string ⟨#[]⟩, .int .i64 0, .int .i64 0, .string ⟨#[]⟩] _ rfl R Tryz.underlying27 (by rfl) (by kernel_rfl)) rfl ?_
      exact ⟨na, nc, by rw [ms2_cells _ _ _ _ _ HLEN.out], hown, hbl⟩

set_option maxHeartbeats 4000000 in
theorem rMsOf_3 (nn ec : Nat) (sq : Nat) (b o c : Nat) (w : World) (hb : b < w.heap.size)
    (e1 : w.cell? ⟨b, o + 6, none⟩ = some (.int .u64 (nn : Int))) (e2 : w.cell? ⟨b, o + 12, none⟩ = some (.int .u64 (ec : Int)))
    (e3 : w.cell? ⟨b, o + 18, none⟩ = some (.int .u64 (sq : Int)))
    : Calls Tryz.prog 30 #[.int .i64 3, .slice (some ⟨b, o, none⟩) 4 c] w (MsEnds w ⟨3, nn, ec, sq, [], pkZ⟩) := by
  go_enter Tryz.func30, Tryz.ntmps30
  go_upto_region 1 with (fail)
  go_upto_region 2 with (fail)
  have HX := Lib.hid (box2_new0 w [.int .i64 3, .int .u64 0, .int .u64 0, .int .u64 0, .slice none 0 0, .int .i64 0, .int .i64 0, .int .i64 0, .int .i64 0, .int .i64 0, .int .i64 0, .int .u64 0, .int .i64 0, .string ⟨#[]⟩, .int .i64 0, .int .i64 0, .string ⟨#[]⟩] [.int .i64 0, .int .u64 0, .int .u64 0, .int .u64 0, .slice none 0 0, .int .i64 0, .int .i64 0, .int .i64 0, .int .i64 0, .int .i64 0, .int .i64 0, .int .u64 0, .int .i64 0, .string ⟨#[]⟩, .int .i64 0, .int .i64 0, .string ⟨#[]⟩] 27 rfl rfl)
  generalize (w.alloc (.cells #[.int .i64 0, .int .u64 0, .int .u64 0, .int .u64 0, .slice none 0 0, .int .i64 0, .int .i64 0, .int .i64 0, .int .i64 0, .int .i64 0, .int .i64 0, .int .u64 0, .int .i64 0, .string ⟨#[]⟩, .int .i64 0, .int .i64 0, .string ⟨#[]⟩] 27)).alloc (.cells #[.int .i64 3, .int .u64 0, .int .u64 0, .int .u64 0, .slice none 0 0, .int .i64 0, .int .i64 0, .int .i64 0, .int .i64 0, .int .i64 0, .int .i64 0, .int .u64 0, .int .i64 0, .string ⟨#[]⟩, .int .i64 0, .int .i64 0, .string ⟨#[]⟩] 27) = V1 at *
  have q1 := HX.out.cell 1 _ rfl
  have q2 := HX.out.frozen 1 (by omega)
  have q3 := (HX.out.bel.cell (p := ⟨b, o + 6, none⟩) hb).trans e1
  go_upto_region 6 with (fail)
  have HXa : Hid (Box2 w.heap.size w w.heap.size (w.heap.size + 1) [.int .i64 3, .int .u64 (nn : Int), .int .u64 0, .int .u64 0, .slice none 0 0, .int .i64 0, .int .i64 0, .int .i64 0, .int .i64 0, .int .i64 0, .int .i64 0, .int .u64 0, .int .i64 0, .string ⟨#[]⟩, .int .i64 0, .int .i64 0, .string ⟨#[]⟩] (V1.setCell ⟨w.heap.size + 1, 1, none⟩ (.int .u64 (nn : Int)))) := Lib.hid (HX.out.sets (Nat.le_succ _) 1 [.int .u64 (nn : Int)] (by simp) rfl)
  generalize V1.setCell ⟨w.heap.size + 1, 1, none⟩ (.int .u64 (nn : Int)) = Va at *
  clear q1 q2 q3
  have q1 := HXa.out.cell 2 _ rfl
  have q2 := HXa.out.frozen 2 (by omega)
  have q3 := (HXa.out.bel.cell (p := ⟨b, o + 12, none⟩) hb).trans e2
  go_upto_region 7 with (fail)
  have HXb : Hid (Box2 w.heap.size w w.heap.size (w.heap.size + 1) [.int .i64 3, .int .u64 (nn : Int), .int .u64 (ec : Int), .int .u64 0, .slice none 0 0, .int .i64 0, .int .i64 0, .int .i64 0, .int .i64 0, .int .i64 0, .int .i64 0, .int .u64 0, .int .i64 0, .string ⟨#[]⟩, .int .i64 0, .int .i64 0, .string ⟨#[]⟩] (Va.setCell ⟨w.heap.size + 1, 2, none⟩ (.int .u64 (ec : Int)))) := Lib.hid (HXa.out.sets (Nat.le_succ _) 2 [.int .u64 (ec : Int)] (by simp) rfl)
  generalize Va.setCell ⟨w.heap.size + 1, 2, none⟩ (.int .u64 (ec : Int)) = Vb at *
  clear q1 q2 q3
  go_upto_region 9 with (fail)
  have q1 := HXb.out.cell 3 _ rfl
  have q2 := HXb.out.frozen 3 (by omega)
  have q3 := (HXb.out.bel.cell (p := ⟨b, o + 18, none⟩) hb).trans e3
  go_upto_region 10 with (fail)
  have HXc : Hid (Box2 w.heap.size w w.heap.size (w.heap.size + 1) [.int .i64 3, .int .u64 (nn : Int), .int .u64 (ec : Int), .int .u64 (sq : Int), .slice none 0 0, .int .i64 0, .int .i64 0, .int .i64 0, .int .i64 0, .int .i64 0, .int .i64 0, .int .u64 0, .int .i64 0, .string ⟨#[]⟩, .int .i64 0, .int .i64 0, .string ⟨#[]⟩] (Vb.setCell ⟨w.heap.size + 1, 3, none⟩ (.int .u64 (sq : Int)))) := Lib.hid (HXb.out.sets (Nat.le_succ _) 3 [.int .u64 (sq : Int)] (by simp) rfl)
  generalize Vb.setCell ⟨w.heap.size + 1, 3, none⟩ (.int .u64 (sq : Int)) = Vc at *
  clear q1 q2 q3
  go_upto_region 16 with (fail)
  refine wp_region_list ?_
  refine wpList_load_guard (by kernel_rfl) 27 (.tmp 5) rfl (w.heap.size + 1) 0 rfl [.int .i64 3, .int .u64 (nn : Int), .int .u64 (ec : Int), .int .u64 (sq : Int), .slice none 0 0, .int .i64 0, .int .i64 0, .int .i64 0, .int .i64 0, .int .i64 0, .int .i64 0, .int .u64 0, .int .i64 0, .string ⟨#[]⟩, .int .i64 0, .int .i64 0, .string ⟨#[]⟩] _ HXc.out.at_ Tryz.underlying27 (by rfl) (by kernel_rfl) ?_
  try simp only [Act.put, List.setIfInBounds_toArray, List.set_cons_zero, List.set_cons_succ, List.getElem_toArray, List.getElem_cons_succ, List.getElem_cons_zero]
  refine wpList_store_mid rfl 27 _ _ rfl w.heap.size 0 #[.int .i64 3, .int .u64 (nn : Int), .int .u64 (ec : Int), .int .u64 (sq : Int), .slice none 0 0, .int .i64 0, .int .i64 0, .int .i64 0, .int .i64 0, .int .i64 0, .int .i64 0, .int .u64 0, .int .i64 0, .string ⟨#[]⟩, .int .i64 0, .int .i64 0, .string ⟨#[]⟩] rfl rfl HXc.out.t2 (by kernel_rfl) (all_oneCell_toArray (cs := [.int .i64 3, .int .u64 (nn : Int), .int .u64 (ec : Int), .int .u64 (sq : Int), .slice none 0 0, .int .i64 0, .int .i64 0, .int .i64 0, .int .i64 0, .int .i64 0, .int .i64 0, .int .u64 0, .int .i64 0, .string ⟨#[]⟩, .int .i64 0, .int .i64 0, .string ⟨#[]⟩]) (by intro v hv; simp only [List.mem_cons, List.not_mem_nil, or_false] at hv; rcases hv with rfl | rfl | rfl | rfl | rfl | rfl | rfl | rfl | rfl | rfl | rfl | rfl | rfl | rfl | rfl | rfl | rfl <;> rfl)) ?_
  obtain ⟨R, hbl⟩ := HXc.out.out (Nat.le_refl _) rfl
  generalize Vc.setCells w.heap.size 0 [.int .i64 3, .int .u64 (nn : Int), .int .u64 (ec : Int), .int .u64 (sq : Int), .slice none 0 0, .int .i64 0, .int .i64 0, .int .i64 0, .int .i64 0, .int .i64 0, .int .i64 0, .int .u64 0, .int .i64 0, .string ⟨#[]⟩, .int .i64 0, .int .i64 0, .string ⟨#[]⟩] = Vz at *
  try simp only [Act.put, List.setIfInBounds_toArray, List.set_cons_zero, List.set_cons_succ, List.getElem_toArray, List.getElem_cons_succ, List.getElem_cons_zero]
  refine wpList_nil ?_
  go_wp2_with fail
  refine bodyPost_ret (results_cell Tryz.results30 _ Vz w.heap.size 0 [.int .i64 3, .int .u64 (nn : Int), .int .u64 (ec : Int), .int .u64 (sq : Int), .slice none 0 0, .int .i64 0, .int .i64 0, .int .i64 0, .int .i64 0, .int .i64 0, .int .i64 0, .int .u64 0, .int .i64 0, .string ⟨#[]⟩, .int .i64 0, .int .i64 0, .string ⟨#[]⟩] _ rfl R Tryz.underlying27 (by rfl) (by kernel_rfl)) rfl ?_
  exact ⟨none, 0, rfl, World.ownsRow_nil _ _ _ _, hbl⟩

set_option maxHeartbeats 4000000 in
theorem rMsOf_4 (u1 : Nat) (u2 : Nat) (u3 : Nat) (u4 : Nat) (u5 : Nat) (u6 : Nat) (u8 : Nat) (u9 : Nat) (u10 : Nat) (u7 : Nat) (t11 t12 : ByteArray) (b o c : Nat) (w : World) (hb : b < w.heap.size)
    (e1 : w.cell? ⟨b, o + 6, none⟩ = some (.int .u64 (u1 : Int))) (e2 : w.cell? ⟨b, o + 12, none⟩ = some (.int .u64 (u2 : Int))) (e3 : w.cell? ⟨b, o + 18, none⟩ = some (.int .u64 (u3 : Int))) (e4 : w.cell? ⟨b, o + 24, none⟩ = some (.int .u64 (u4 : Int))) (e5 : w.cell? ⟨b, o + 30, none⟩ = some (.int .u64 (u5 : Int))) (e6 : w.cell? ⟨b, o + 36, none⟩ = some (.int .u64 (u6 : Int))) (e8 : w.cell? ⟨b, o + 48, none⟩ = some (.int .u64 (u8 : Int))) (e9 : w.cell? ⟨b, o + 54, none⟩ = some (.int .u64 (u9 : Int))) (e10 : w.cell? ⟨b, o + 60, none⟩ = some (.int .u64 (u10 : Int))) (e7 : w.cell? ⟨b, o + 42, none⟩ = some (.int .u64 (u7 : Int))) (e11 : w.cell? ⟨b, o + 70, none⟩ = some (.string t11)) (e12 : w.cell? ⟨b, o + 76, none⟩ = some (.string t12))
    : Calls Tryz.prog 30 #[.int .i64 4, .slice (some ⟨b, o, none⟩) 13 c] w (MsEnds w ⟨4, 0, 0, 0, [], ⟨wR u1, wR u2, wR u3, wR u4, wR u5, wR u6, u7, wR u8, t11, wR u9, wR u10, t12⟩⟩) := by
  have HW1 := Lib.hid (fun W => rWhole_any u1 W)
  have HW2 := Lib.hid (fun W => rWhole_any u2 W)
  have HW3 := Lib.hid (fun W => rWhole_any u3 W)
  have HW4 := Lib.hid (fun W => rWhole_any u4 W)
  have HW5 := Lib.hid (fun W => rWhole_any u5 W)
  have HW6 := Lib.hid (fun W => rWhole_any u6 W)
  have HW8 := Lib.hid (fun W => rWhole_any u8 W)
  have HW9 := Lib.hid (fun W => rWhole_any u9 W)
  have HW10 := Lib.hid (fun W => rWhole_any u10 W)
  generalize wR u1 = x1 at *
  generalize wR u2 = x2 at *
  generalize wR u3 = x3 at *
  generalize wR u4 = x4 at *
  generalize wR u5 = x5 at *
  generalize wR u6 = x6 at *
  generalize wR u8 = x8 at *
  generalize wR u9 = x9 at *
  generalize wR u10 = x10 at *
  go_enter Tryz.func30, Tryz.ntmps30
  go_upto_region 1 with (fail)
  go_upto_region 2 with (fail)
  have HX := Lib.hid (box2_new0 w [.int .i64 4, .int .u64 0, .int .u64 0, .int .u64 0, .slice none 0 0, .int .i64 0, .int .i64 0, .int .i64 0, .int .i64 0, .int .i64 0, .int .i64 0, .int .u64 0, .int .i64 0, .string ⟨#[]⟩, .int .i64 0, .int .i64 0, .string ⟨#[]⟩] [.int .i64 0, .int .u64 0, .int .u64 0, .int .u64 0, .slice none 0 0, .int .i64 0, .int .i64 0, .int .i64 0, .int .i64 0, .int .i64 0, .int .i64 0, .int .u64 0, .int .i64 0, .string ⟨#[]⟩, .int .i64 0, .int .i64 0, .string ⟨#[]⟩] 27 rfl rfl)
  generalize (w.alloc (.cells #[.int .i64 0, .int .u64 0, .int .u64 0, .int .u64 0, .slice none 0 0, .int .i64 0, .int .i64 0, .int .i64 0, .int .i64 0, .int .i64 0, .int .i64 0, .int .u64 0, .int .i64 0, .string ⟨#[]⟩, .int .i64 0, .int .i64 0, .string ⟨#[]⟩] 27)).alloc (.cells #[.int .i64 4, .int .u64 0, .int .u64 0, .int .u64 0, .slice none 0 0, .int .i64 0, .int .i64 0, .int .i64 0, .int .i64 0, .int .i64 0, .int .i64 0, .int .u64 0, .int .i64 0, .string ⟨#[]⟩, .int .i64 0, .int .i64 0, .string ⟨#[]⟩] 27) = V1 at *
  go_upto_region 3 with (fail)
  have HXa := Lib.hid HX.out.drew
  have K1 : ∀ V, (∃ cs, Box2 w.heap.size w w.heap.size (w.heap.size + 1) cs V) → V.cell? ⟨b, o + 6, none⟩ = some (.int .u64 (u1 : Int)) := fun V ⟨_, h⟩ => (h.bel.cell (p := ⟨b, _, none⟩) hb).trans e1
  have K2 : ∀ V, (∃ cs, Box2 w.heap.size w w.heap.size (w.heap.size + 1) cs V) → V.cell? ⟨b, o + 12, none⟩ = some (.int .u64 (u2 : Int)) := fun V ⟨_, h⟩ => (h.bel.cell (p := ⟨b, _, none⟩) hb).trans e2
  have K3 : ∀ V, (∃ cs, Box2 w.heap.size w w.heap.size (w.heap.size + 1) cs V) → V.cell? ⟨b, o + 18, none⟩ = some (.int .u64 (u3 : Int)) := fun V ⟨_, h⟩ => (h.bel.cell (p := ⟨b, _, none⟩) hb).trans e3
  have K4 : ∀ V, (∃ cs, Box2 w.heap.size w w.heap.size (w.heap.size + 1) cs V) → V.cell? ⟨b, o + 24, none⟩ = some (.int .u64 (u4 : Int)) := fun V ⟨_, h⟩ => (h.bel.cell (p := ⟨b, _, none⟩) hb).trans e4
  have K5 : ∀ V, (∃ cs, Box2 w.heap.size w w.heap.size (w.heap.size + 1) cs V) → V.cell? ⟨b, o + 30, none⟩ = some (.int .u64 (u5 : Int)) := fun V ⟨_, h⟩ => (h.bel.cell (p := ⟨b, _, none⟩) hb).trans e5
  have K6 : ∀ V, (∃ cs, Box2 w.heap.size w w.heap.size (w.heap.size + 1) cs V) → V.cell? ⟨b, o + 36, none⟩ = some (.int .u64 (u6 : Int)) := fun V ⟨_, h⟩ => (h.bel.cell (p := ⟨b, _, none⟩) hb).trans e6
  have K8 : ∀ V, (∃ cs, Box2 w.heap.size w w.heap.size (w.heap.size + 1) cs V) → V.cell? ⟨b, o + 48, none⟩ = some (.int .u64 (u8 : Int)) := fun V ⟨_, h⟩ => (h.bel.cell (p := ⟨b, _, none⟩) hb).trans e8
  have K9 : ∀ V, (∃ cs, Box2 w.heap.size w w.heap.size (w.heap.size + 1) cs V) → V.cell? ⟨b, o + 54, none⟩ = some (.int .u64 (u9 : Int)) := fun V ⟨_, h⟩ => (h.bel.cell (p := ⟨b, _, none⟩) hb).trans e9
  have K10 : ∀ V, (∃ cs, Box2 w.heap.size w w.heap.size (w.heap.size + 1) cs V) → V.cell? ⟨b, o + 60, none⟩ = some (.int .u64 (u10 : Int)) := fun V ⟨_, h⟩ => (h.bel.cell (p := ⟨b, _, none⟩) hb).trans e10
  have K7 : ∀ V, (∃ cs, Box2 w.heap.size w w.heap.size (w.heap.size + 1) cs V) → V.cell? ⟨b, o + 42, none⟩ = some (.int .u64 (u7 : Int)) := fun V ⟨_, h⟩ => (h.bel.cell (p := ⟨b, _, none⟩) hb).trans e7
  have K11 : ∀ V, (∃ cs, Box2 w.heap.size w w.heap.size (w.heap.size + 1) cs V) → V.cell? ⟨b, o + 70, none⟩ = some (.string t11) := fun V ⟨_, h⟩ => (h.bel.cell (p := ⟨b, _, none⟩) hb).trans e11
  have K12 : ∀ V, (∃ cs, Box2 w.heap.size w w.heap.size (w.heap.size + 1) cs V) → V.cell? ⟨b, o + 76, none⟩ = some (.string t12) := fun V ⟨_, h⟩ => (h.bel.cell (p := ⟨b, _, none⟩) hb).trans e12
  clear e1 e2 e3 e4 e5 e6 e8 e9 e10 e7 e11 e12
  refine wp_region_held_drew (S := fun V => ∃ cs, Box2 w.heap.size w w.heap.size (w.heap.size + 1) cs V) (by kernel_rfl) ⟨_, HXa.out⟩ (fun hH => ?_)
  generalize V1.drew = V0 at *
  refine tk 0 (by assumption) rfl (by kernel_rfl) (fun _ _ _ h => h) (fun V hV => by go_simp; try with_reducible rfl) ?_
  try simp only [Act.put, List.setIfInBounds_toArray, List.set_cons_zero, List.set_cons_succ, List.getElem_toArray, List.getElem_cons_succ, List.getElem_cons_zero]
  refine tk 1 (by assumption) rfl (by kernel_rfl) (fun _ _ _ h => h) (fun V hV => by go_simp; try with_reducible rfl) ?_
  try simp only [Act.put, List.setIfInBounds_toArray, List.set_cons_zero, List.set_cons_succ, List.getElem_toArray, List.getElem_cons_succ, List.getElem_cons_zero]
  refine tk 2 (by assumption) rfl (by kernel_rfl) (fun _ _ _ h => h) (fun V hV => by go_simp; try with_reducible rfl) ?_
  try simp only [Act.put, List.setIfInBounds_toArray, List.set_cons_zero, List.set_cons_succ, List.getElem_toArray, List.getElem_cons_succ, List.getElem_cons_zero]
  refine tk 3 (by assumption) rfl (by kernel_rfl) (fun _ _ _ h => h) (fun V hV => by have hc := K1 V hV; go_simp; try with_reducible rfl) ?_
  try simp only [Act.put, List.setIfInBounds_toArray, List.set_cons_zero, List.set_cons_succ, List.getElem_toArray, List.getElem_cons_succ, List.getElem_cons_zero]
  refine tk 5 (by assumption) rfl (by kernel_rfl) (fun _ _ _ h => h) (fun V hV => by go_simp; try with_reducible rfl) ?_
  try simp only [Act.put, List.setIfInBounds_toArray, List.set_cons_zero, List.set_cons_succ, List.getElem_toArray, List.getElem_cons_succ, List.getElem_cons_zero]
  refine tk 6 (by assumption) rfl (by kernel_rfl) (fun _ _ _ h => h) (fun V hV => by go_simp; try with_reducible rfl) ?_
  try simp only [Act.put, List.setIfInBounds_toArray, List.set_cons_zero, List.set_cons_succ, List.getElem_toArray, List.getElem_cons_succ, List.getElem_cons_zero]
  refine tk 7 (by assumption) rfl (by kernel_rfl) (fun _ _ _ h => h) (fun V hV => by go_simp; try with_reducible rfl) ?_
  try simp only [Act.put, List.setIfInBounds_toArray, List.set_cons_zero, List.set_cons_succ, List.getElem_toArray, List.getElem_cons_succ, List.getElem_cons_zero]
  refine tk 8 (by assumption) rfl (by kernel_rfl) (fun _ _ _ h => h) (fun V hV => by have hc := K2 V hV; go_simp; try with_reducible rfl) ?_
  try simp only [Act.put, List.setIfInBounds_toArray, List.set_cons_zero, List.set_cons_succ, List.getElem_toArray, List.getElem_cons_succ, List.getElem_cons_zero]
  refine tk 10 (by assumption) rfl (by kernel_rfl) (fun _ _ _ h => h) (fun V hV => by go_simp; try with_reducible rfl) ?_
  try simp only [Act.put, List.setIfInBounds_toArray, List.set_cons_zero, List.set_cons_succ, List.getElem_toArray, List.getElem_cons_succ, List.getElem_cons_zero]
  refine tk 11 (by assumption) rfl (by kernel_rfl) (fun _ _ _ h => h) (fun V hV => by go_simp; try with_reducible rfl) ?_
  try simp only [Act.put, List.setIfInBounds_toArray, List.set_cons_zero, List.set_cons_succ, List.getElem_toArray, List.getElem_cons_succ, List.getElem_cons_zero]
  refine tk 12 (by assumption) rfl (by kernel_rfl) (fun _ _ _ h => h) (fun V hV => by go_simp; try with_reducible rfl) ?_
  try simp only [Act.put, List.setIfInBounds_toArray, List.set_cons_zero, List.set_cons_succ, List.getElem_toArray, List.getElem_cons_succ, List.getElem_cons_zero]
  refine tk 13 (by assumption) rfl (by kernel_rfl) (fun _ _ _ h => h) (fun V hV => by have hc := K3 V hV; go_simp; try with_reducible rfl) ?_
  try simp only [Act.put, List.setIfInBounds_toArray, List.set_cons_zero, List.set_cons_succ, List.getElem_toArray, List.getElem_cons_succ, List.getElem_cons_zero]
  refine tk 15 (by assumption) rfl (by kernel_rfl) (fun _ _ _ h => h) (fun V hV => by go_simp; try with_reducible rfl) ?_
  try simp only [Act.put, List.setIfInBounds_toArray, List.set_cons_zero, List.set_cons_succ, List.getElem_toArray, List.getElem_cons_succ, List.getElem_cons_zero]
  refine tk 16 (by assumption) rfl (by kernel_rfl) (fun _ _ _ h => h) (fun V hV => by go_simp; try with_reducible rfl) ?_
  try simp only [Act.put, List.setIfInBounds_toArray, List.set_cons_zero, List.set_cons_succ, List.getElem_toArray, List.getElem_cons_succ, List.getElem_cons_zero]
  refine tk 17 (by assumption) rfl (by kernel_rfl) (fun _ _ _ h => h) (fun V hV => by go_simp; try with_reducible rfl) ?_
  try simp only [Act.put, List.setIfInBounds_toArray, List.set_cons_zero, List.set_cons_succ, List.getElem_toArray, List.getElem_cons_succ, List.getElem_cons_zero]
  refine tk 18 (by assumption) rfl (by kernel_rfl) (fun _ _ _ h => h) (fun V hV => by have hc := K4 V hV; go_simp; try with_reducible rfl) ?_
  try simp only [Act.put, List.setIfInBounds_toArray, List.set_cons_zero, List.set_cons_succ, List.getElem_toArray, List.getElem_cons_succ, List.getElem_cons_zero]
  refine tk 20 (by assumption) rfl (by kernel_rfl) (fun _ _ _ h => h) (fun V hV => by go_simp; try with_reducible rfl) ?_
  try simp only [Act.put, List.setIfInBounds_toArray, List.set_cons_zero, List.set_cons_succ, List.getElem_toArray, List.getElem_cons_succ, List.getElem_cons_zero]
  refine tk 21 (by assumption) rfl (by kernel_rfl) (fun _ _ _ h => h) (fun V hV => by go_simp; try with_reducible rfl) ?_
  try simp only [Act.put, List.setIfInBounds_toArray, List.set_cons_zero, List.set_cons_succ, List.getElem_toArray, List.getElem_cons_succ, List.getElem_cons_zero]
  refine tk 22 (by assumption) rfl (by kernel_rfl) (fun _ _ _ h => h) (fun V hV => by go_simp; try with_reducible rfl) ?_
  try simp only [Act.put, List.setIfInBounds_toArray, List.set_cons_zero, List.set_cons_succ, List.getElem_toArray, List.getElem_cons_succ, List.getElem_cons_zero]
  refine tk 23 (by assumption) rfl (by kernel_rfl) (fun _ _ _ h => h) (fun V hV => by have hc := K5 V hV; go_simp; try with_reducible rfl) ?_
  try simp only [Act.put, List.setIfInBounds_toArray, List.set_cons_zero, List.set_cons_succ, List.getElem_toArray, List.getElem_cons_succ, List.getElem_cons_zero]
  refine tk 25 (by assumption) rfl (by kernel_rfl) (fun _ _ _ h => h) (fun V hV => by go_simp; try with_reducible rfl) ?_
  try simp only [Act.put, List.setIfInBounds_toArray, List.set_cons_zero, List.set_cons_succ, List.getElem_toArray, List.getElem_cons_succ, List.getElem_cons_zero]
  refine tk 26 (by assumption) rfl (by kernel_rfl) (fun _ _ _ h => h) (fun V hV => by go_simp; try with_reducible rfl) ?_
  try simp only [Act.put, List.setIfInBounds_toArray, List.set_cons_zero, List.set_cons_succ, List.getElem_toArray, List.getElem_cons_succ, List.getElem_cons_zero]
  refine tk 27 (by assumption) rfl (by kernel_rfl) (fun _ _ _ h => h) (fun V hV => by go_simp; try with_reducible rfl) ?_
  try simp only [Act.put, List.setIfInBounds_toArray, List.set_cons_zero, List.set_cons_succ, List.getElem_toArray, List.getElem_cons_succ, List.getElem_cons_zero]
  refine tk 28 (by assumption) rfl (by kernel_rfl) (fun _ _ _ h => h) (fun V hV => by have hc := K6 V hV; go_simp; try with_reducible rfl) ?_
  try simp only [Act.put, List.setIfInBounds_toArray, List.set_cons_zero, List.set_cons_succ, List.getElem_toArray, List.getElem_cons_succ, List.getElem_cons_zero]
  refine tk 30 (by assumption) rfl (by kernel_rfl) (fun _ _ _ h => h) (fun V hV => by go_simp; try with_reducible rfl) ?_
  try simp only [Act.put, List.setIfInBounds_toArray, List.set_cons_zero, List.set_cons_succ, List.getElem_toArray, List.getElem_cons_succ, List.getElem_cons_zero]
  refine tk 31 (by assumption) rfl (by kernel_rfl) (fun _ _ _ h => h) (fun V hV => by go_simp; try with_reducible rfl) ?_
  try simp only [Act.put, List.setIfInBounds_toArray, List.set_cons_zero, List.set_cons_succ, List.getElem_toArray, List.getElem_cons_succ, List.getElem_cons_zero]
  refine tk 32 (by assumption) rfl (by kernel_rfl) (fun _ _ _ h => h) (fun V hV => by go_simp; try with_reducible rfl) ?_
  try simp only [Act.put, List.setIfInBounds_toArray, List.set_cons_zero, List.set_cons_succ, List.getElem_toArray, List.getElem_cons_succ, List.getElem_cons_zero]
  refine tk 33 (by assumption) rfl (by kernel_rfl) (fun _ _ _ h => h) (fun V hV => by have hc := K7 V hV; go_simp; try with_reducible rfl) ?_
  try simp only [Act.put, List.setIfInBounds_toArray, List.set_cons_zero, List.set_cons_succ, List.getElem_toArray, List.getElem_cons_succ, List.getElem_cons_zero]
  refine tk 34 (by assumption) rfl (by kernel_rfl) (fun _ _ _ h => h) (fun V hV => by go_simp; try with_reducible rfl) ?_
  try simp only [Act.put, List.setIfInBounds_toArray, List.set_cons_zero, List.set_cons_succ, List.getElem_toArray, List.getElem_cons_succ, List.getElem_cons_zero]
  refine tk 35 (by assumption) rfl (by kernel_rfl) (fun _ _ _ h => h) (fun V hV => by go_simp; try with_reducible rfl) ?_
  try simp only [Act.put, List.setIfInBounds_toArray, List.set_cons_zero, List.set_cons_succ, List.getElem_toArray, List.getElem_cons_succ, List.getElem_cons_zero]
  refine tk 36 (by assumption) rfl (by kernel_rfl) (fun _ _ _ h => h) (fun V hV => by go_simp; try with_reducible rfl) ?_
  try simp only [Act.put, List.setIfInBounds_toArray, List.set_cons_zero, List.set_cons_succ, List.getElem_toArray, List.getElem_cons_succ, List.getElem_cons_zero]
  refine tk 37 (by assumption) rfl (by kernel_rfl) (fun _ _ _ h => h) (fun V hV => by have hc := K8 V hV; go_simp; try with_reducible rfl) ?_
  try simp only [Act.put, List.setIfInBounds_toArray, List.set_cons_zero, List.set_cons_succ, List.getElem_toArray, List.getElem_cons_succ, List.getElem_cons_zero]
  refine tk 39 (by assumption) rfl (by kernel_rfl) (fun _ _ _ h => h) (fun V hV => by go_simp; try with_reducible rfl) ?_
  try simp only [Act.put, List.setIfInBounds_toArray, List.set_cons_zero, List.set_cons_succ, List.getElem_toArray, List.getElem_cons_succ, List.getElem_cons_zero]
  refine tk 40 (by assumption) rfl (by kernel_rfl) (fun _ _ _ h => h) (fun V hV => by go_simp; try with_reducible rfl) ?_
  try simp only [Act.put, List.setIfInBounds_toArray, List.set_cons_zero, List.set_cons_succ, List.getElem_toArray, List.getElem_cons_succ, List.getElem_cons_zero]
  refine tk 41 (by assumption) rfl (by kernel_rfl) (fun _ _ _ h => h) (fun V hV => by go_simp; try with_reducible rfl) ?_
  try simp only [Act.put, List.setIfInBounds_toArray, List.set_cons_zero, List.set_cons_succ, List.getElem_toArray, List.getElem_cons_succ, List.getElem_cons_zero]
  refine tk 42 (by assumption) rfl (by kernel_rfl) (fun _ _ _ h => h) (fun V hV => by have hc := K9 V hV; go_simp; try with_reducible rfl) ?_
  try simp only [Act.put, List.setIfInBounds_toArray, List.set_cons_zero, List.set_cons_succ, List.getElem_toArray, List.getElem_cons_succ, List.getElem_cons_zero]
  refine tk 44 (by assumption) rfl (by kernel_rfl) (fun _ _ _ h => h) (fun V hV => by go_simp; try with_reducible rfl) ?_
  try simp only [Act.put, List.setIfInBounds_toArray, List.set_cons_zero, List.set_cons_succ, List.getElem_toArray, List.getElem_cons_succ, List.getElem_cons_zero]
  refine tk 45 (by assumption) rfl (by kernel_rfl) (fun _ _ _ h => h) (fun V hV => by go_simp; try with_reducible rfl) ?_
  try simp only [Act.put, List.setIfInBounds_toArray, List.set_cons_zero, List.set_cons_succ, List.getElem_toArray, List.getElem_cons_succ, List.getElem_cons_zero]
  refine tk 46 (by assumption) rfl (by kernel_rfl) (fun _ _ _ h => h) (fun V hV => by go_simp; try with_reducible rfl) ?_
  try simp only [Act.put, List.setIfInBounds_toArray, List.set_cons_zero, List.set_cons_succ, List.getElem_toArray, List.getElem_cons_succ, List.getElem_cons_zero]
  refine tk 47 (by assumption) rfl (by kernel_rfl) (fun _ _ _ h => h) (fun V hV => by have hc := K10 V hV; go_simp; try with_reducible rfl) ?_
  try simp only [Act.put, List.setIfInBounds_toArray, List.set_cons_zero, List.set_cons_succ, List.getElem_toArray, List.getElem_cons_succ, List.getElem_cons_zero]
  refine tk 49 (by assumption) rfl (by kernel_rfl) (fun _ _ _ h => h) (fun V hV => by go_simp; try with_reducible rfl) ?_
  try simp only [Act.put, List.setIfInBounds_toArray, List.set_cons_zero, List.set_cons_succ, List.getElem_toArray, List.getElem_cons_succ, List.getElem_cons_zero]
  refine tk 50 (by assumption) rfl (by kernel_rfl) (fun _ _ _ h => h) (fun V hV => by go_simp; try with_reducible rfl) ?_
  try simp only [Act.put, List.setIfInBounds_toArray, List.set_cons_zero, List.set_cons_succ, List.getElem_toArray, List.getElem_cons_succ, List.getElem_cons_zero]
  refine tk 51 (by assumption) rfl (by kernel_rfl) (fun _ _ _ h => h) (fun V hV => by go_simp; try with_reducible rfl) ?_
  try simp only [Act.put, List.setIfInBounds_toArray, List.set_cons_zero, List.set_cons_succ, List.getElem_toArray, List.getElem_cons_succ, List.getElem_cons_zero]
  refine tk 52 (by assumption) rfl (by kernel_rfl) (fun _ _ _ h => h) (fun V hV => by have hc := K11 V hV; go_simp; try with_reducible rfl) ?_
  try simp only [Act.put, List.setIfInBounds_toArray, List.set_cons_zero, List.set_cons_succ, List.getElem_toArray, List.getElem_cons_succ, List.getElem_cons_zero]
  refine tk 53 (by assumption) rfl (by kernel_rfl) (fun _ _ _ h => h) (fun V hV => by go_simp; try with_reducible rfl) ?_
  try simp only [Act.put, List.setIfInBounds_toArray, List.set_cons_zero, List.set_cons_succ, List.getElem_toArray, List.getElem_cons_succ, List.getElem_cons_zero]
  refine tk 54 (by assumption) rfl (by kernel_rfl) (fun _ _ _ h => h) (fun V hV => by go_simp; try with_reducible rfl) ?_
  try simp only [Act.put, List.setIfInBounds_toArray, List.set_cons_zero, List.set_cons_succ, List.getElem_toArray, List.getElem_cons_succ, List.getElem_cons_zero]
  refine tk 55 (by assumption) rfl (by kernel_rfl) (fun _ _ _ h => h) (fun V hV => by go_simp; try with_reducible rfl) ?_
  try simp only [Act.put, List.setIfInBounds_toArray, List.set_cons_zero, List.set_cons_succ, List.getElem_toArray, List.getElem_cons_succ, List.getElem_cons_zero]
  refine tk 56 (by assumption) rfl (by kernel_rfl) (fun _ _ _ h => h) (fun V hV => by have hc := K12 V hV; go_simp; try with_reducible rfl) ?_
  try simp only [Act.put, List.setIfInBounds_toArray, List.set_cons_zero, List.set_cons_succ, List.getElem_toArray, List.getElem_cons_succ, List.getElem_cons_zero]
  refine wpAnyH_ready (rs := [4]) (by kernel_rfl) (by simp) ?_
  refine AllReadyH.cons (o := _) rfl (fun K hK => ?_) AllReadyH.nil
  go_simp
  refine (HW1.out _).mono ?_
  rintro e w' ⟨rfl, rfl⟩
  go_wp2_with fail
  refine hK.out _ _ ⟨_, HXa.out⟩ (fun hH => ?_)
  clear hK K
  try simp only [Act.put, List.setIfInBounds_toArray, List.set_cons_zero, List.set_cons_succ, List.getElem_toArray, List.getElem_cons_succ, List.getElem_cons_zero]
  refine wpAnyH_ready (rs := [9]) (by kernel_rfl) (by simp) ?_
  refine AllReadyH.cons (o := _) rfl (fun K hK => ?_) AllReadyH.nil
  go_simp
  refine (HW2.out _).mono ?_
  rintro e w' ⟨rfl, rfl⟩
  go_wp2_with fail
  refine hK.out _ _ ⟨_, HXa.out⟩ (fun hH => ?_)
  clear hK K
  try simp only [Act.put, List.setIfInBounds_toArray, List.set_cons_zero, List.set_cons_succ, List.getElem_toArray, List.getElem_cons_succ, List.getElem_cons_zero]
  refine wpAnyH_ready (rs := [14]) (by kernel_rfl) (by simp) ?_
  refine AllReadyH.cons (o := _) rfl (fun K hK => ?_) AllReadyH.nil
  go_simp
  refine (HW3.out _).mono ?_
  rintro e w' ⟨rfl, rfl⟩
  go_wp2_with fail
  refine hK.out _ _ ⟨_, HXa.out⟩ (fun hH => ?_)
  clear hK K
  try simp only [Act.put, List.setIfInBounds_toArray, List.set_cons_zero, List.set_cons_succ, List.getElem_toArray, List.getElem_cons_succ, List.getElem_cons_zero]
  refine wpAnyH_ready (rs := [19]) (by kernel_rfl) (by simp) ?_
  refine AllReadyH.cons (o := _) rfl (fun K hK => ?_) AllReadyH.nil
  go_simp
  refine (HW4.out _).mono ?_
  rintro e w' ⟨rfl, rfl⟩
  go_wp2_with fail
  refine hK.out _ _ ⟨_, HXa.out⟩ (fun hH => ?_)
  clear hK K
  try simp only [Act.put, List.setIfInBounds_toArray, List.set_cons_zero, List.set_cons_succ, List.getElem_toArray, List.getElem_cons_succ, List.getElem_cons_zero]
  refine wpAnyH_ready (rs := [24]) (by kernel_rfl) (by simp) ?_
  refine AllReadyH.cons (o := _) rfl (fun K hK => ?_) AllReadyH.nil
  go_simp
  refine (HW5.out _).mono ?_
  rintro e w' ⟨rfl, rfl⟩
  go_wp2_with fail
  refine hK.out _ _ ⟨_, HXa.out⟩ (fun hH => ?_)
  clear hK K
  try simp only [Act.put, List.setIfInBounds_toArray, List.set_cons_zero, List.set_cons_succ, List.getElem_toArray, List.getElem_cons_succ, List.getElem_cons_zero]
  refine wpAnyH_ready (rs := [29]) (by kernel_rfl) (by simp) ?_
  refine AllReadyH.cons (o := _) rfl (fun K hK => ?_) AllReadyH.nil
  go_simp
  refine (HW6.out _).mono ?_
  rintro e w' ⟨rfl, rfl⟩
  go_wp2_with fail
  refine hK.out _ _ ⟨_, HXa.out⟩ (fun hH => ?_)
  clear hK K
  try simp only [Act.put, List.setIfInBounds_toArray, List.set_cons_zero, List.set_cons_succ, List.getElem_toArray, List.getElem_cons_succ, List.getElem_cons_zero]
  refine wpAnyH_ready (rs := [38]) (by kernel_rfl) (by simp) ?_
  refine AllReadyH.cons (o := _) rfl (fun K hK => ?_) AllReadyH.nil
  go_simp
  refine (HW8.out _).mono ?_
  rintro e w' ⟨rfl, rfl⟩
  go_wp2_with fail
  refine hK.out _ _ ⟨_, HXa.out⟩ (fun hH => ?_)
  clear hK K
  try simp only [Act.put, List.setIfInBounds_toArray, List.set_cons_zero, List.set_cons_succ, List.getElem_toArray, List.getElem_cons_succ, List.getElem_cons_zero]
  refine wpAnyH_ready (rs := [43]) (by kernel_rfl) (by simp) ?_
  refine AllReadyH.cons (o := _) rfl (fun K hK => ?_) AllReadyH.nil
  go_simp
  refine (HW9.out _).mono ?_
  rintro e w' ⟨rfl, rfl⟩
  go_wp2_with fail
  refine hK.out _ _ ⟨_, HXa.out⟩ (fun hH => ?_)
  clear hK K
  try simp only [Act.put, List.setIfInBounds_toArray, List.set_cons_zero, List.set_cons_succ, List.getElem_toArray, List.getElem_cons_succ, List.getElem_cons_zero]
  refine wpAnyH_ready (rs := [48]) (by kernel_rfl) (by simp) ?_
  refine AllReadyH.cons (o := _) rfl (fun K hK => ?_) AllReadyH.nil
  go_simp
  refine (HW10.out _).mono ?_
  rintro e w' ⟨rfl, rfl⟩
  go_wp2_with fail
  refine hK.out _ _ ⟨_, HXa.out⟩ (fun hH => ?_)
  clear hK K
  try simp only [Act.put, List.setIfInBounds_toArray, List.set_cons_zero, List.set_cons_succ, List.getElem_toArray, List.getElem_cons_succ, List.getElem_cons_zero]
  refine tk 57 (by assumption) rfl (by kernel_rfl) (fun _ _ _ h => h) (fun V hV => by go_simp; try with_reducible rfl) ?_
  try simp only [Act.put, List.setIfInBounds_toArray, List.set_cons_zero, List.set_cons_succ, List.getElem_toArray, List.getElem_cons_succ, List.getElem_cons_zero]
  refine tk 58 (by assumption) rfl (by kernel_rfl) (fun _ _ _ h => h) (fun V hV => by go_simp; try with_reducible rfl) ?_
  try simp only [Act.put, List.setIfInBounds_toArray, List.set_cons_zero, List.set_cons_succ, List.getElem_toArray, List.getElem_cons_succ, List.getElem_cons_zero]
  have hth : V0.there (w.heap.size + 1) 5 12 := fun j hj => by have := HXa.out.t1 (5 + j) (by omega); simpa using this
  refine wpAnyH_ready (rs := [59]) (by kernel_rfl) (by simp) ?_
  refine AllReadyH.cons (o := _) rfl (fun K hK => ?_) AllReadyH.nil
  rw [if_pos (by rfl)]
  refine wp_store_mid _ _ _ rfl (w.heap.size + 1) 5 #[.int .i64 x1, .int .i64 x2, .int .i64 x3, .int .i64 x4, .int .i64 x5, .int .i64 x6, .int .u64 (u7 : Int), .int .i64 x8, .string t11, .int .i64 x9, .int .i64 x10, .string t12] (by first | rfl | simp) rfl hth (by kernel_rfl) (all_oneCell_toArray (cs := [.int .i64 x1, .int .i64 x2, .int .i64 x3, .int .i64 x4, .int .i64 x5, .int .i64 x6, .int .u64 (u7 : Int), .int .i64 x8, .string t11, .int .i64 x9, .int .i64 x10, .string t12]) (by intro v hv; simp only [List.mem_cons, List.not_mem_nil, or_false] at hv; rcases hv with rfl | rfl | rfl | rfl | rfl | rfl | rfl | rfl | rfl | rfl | rfl | rfl <;> rfl)) ?_
  have HXb : Hid (Box2 w.heap.size w w.heap.size (w.heap.size + 1) [.int .i64 4, .int .u64 0, .int .u64 0, .int .u64 0, .slice none 0 0, .int .i64 x1, .int .i64 x2, .int .i64 x3, .int .i64 x4, .int .i64 x5, .int .i64 x6, .int .u64 (u7 : Int), .int .i64 x8, .string t11, .int .i64 x9, .int .i64 x10, .string t12] (V0.setCells (w.heap.size + 1) 5 [.int .i64 x1, .int .i64 x2, .int .i64 x3, .int .i64 x4, .int .i64 x5, .int .i64 x6, .int .u64 (u7 : Int), .int .i64 x8, .string t11, .int .i64 x9, .int .i64 x10, .string t12])) := Lib.hid (HXa.out.sets (Nat.le_succ _) 5 [.int .i64 x1, .int .i64 x2, .int .i64 x3, .int .i64 x4, .int .i64 x5, .int .i64 x6, .int .u64 (u7 : Int), .int .i64 x8, .string t11, .int .i64 x9, .int .i64 x10, .string t12] (by simp) rfl)
  refine hK.out _ _ ⟨_, HXb.out⟩ (fun hH => ?_)
  clear hK K
  refine wpAnyH_done (by kernel_rfl) ?_ _
  clear hH hth
  generalize V0.setCells (w.heap.size + 1) 5 [.int .i64 x1, .int .i64 x2, .int .i64 x3, .int .i64 x4, .int .i64 x5, .int .i64 x6, .int .u64 (u7 : Int), .int .i64 x8, .string t11, .int .i64 x9, .int .i64 x10, .string t12] = Vb at *
  go_upto_region 4 with (fail)
  refine wp_region_list ?_
  refine wpList_load_guard (by kernel_rfl) 27 (.tmp 5) rfl (w.heap.size + 1) 0 rfl [.int .i64 4, .int .u64 0, .int .u64 0, .int .u64 0, .slice none 0 0, .int .i64 x1, .int .i64 x2, .int .i64 x3, .int .i64 x4, .int .i64 x5, .int .i64 x6, .int .u64 (u7 : Int), .int .i64 x8, .string t11, .int .i64 x9, .int .i64 x10, .string t12] _ HXb.out.at_ Tryz.underlying27 (by rfl) (by kernel_rfl) ?_
  try simp only [Act.put, List.setIfInBounds_toArray, List.set_cons_zero, List.set_cons_succ, List.getElem_toArray, List.getElem_cons_succ, List.getElem_cons_zero]
  refine wpList_store_mid rfl 27 _ _ rfl w.heap.size 0 #[.int .i64 4, .int .u64 0, .int .u64 0, .int .u64 0, .slice none 0 0, .int .i64 x1, .int .i64 x2, .int .i64 x3, .int .i64 x4, .int .i64 x5, .int .i64 x6, .int .u64 (u7 : Int), .int .i64 x8, .string t11, .int .i64 x9, .int .i64 x10, .string t12] rfl rfl HXb.out.t2 (by kernel_rfl) (all_oneCell_toArray (cs := [.int .i64 4, .int .u64 0, .int .u64 0, .int .u64 0, .slice none 0 0, .int .i64 x1, .int .i64 x2, .int .i64 x3, .int .i64 x4, .int .i64 x5, .int .i64 x6, .int .u64 (u7 : Int), .int .i64 x8, .string t11, .int .i64 x9, .int .i64 x10, .string t12]) (by intro v hv; simp only [List.mem_cons, List.not_mem_nil, or_false] at hv; rcases hv with rfl | rfl | rfl | rfl | rfl | rfl | rfl | rfl | rfl | rfl | rfl | rfl | rfl | rfl | rfl | rfl | rfl <;> rfl)) ?_
  obtain ⟨R, hbl⟩ := HXb.out.out (Nat.le_refl _) rfl
  generalize Vb.setCells w.heap.size 0 [.int .i64 4, .int .u64 0, .int .u64 0, .int .u64 0, .slice none 0 0, .int .i64 x1, .int .i64 x2, .int .i64 x3, .int .i64 x4, .int .i64 x5, .int .i64 x6, .int .u64 (u7 : Int), .int .i64 x8, .string t11, .int .i64 x9, .int .i64 x10, .string t12] = Vz at *
  try simp only [Act.put, List.setIfInBounds_toArray, List.set_cons_zero, List.set_cons_succ, List.getElem_toArray, List.getElem_cons_succ, List.getElem_cons_zero]
  refine wpList_nil ?_
  go_wp2_with fail
  refine bodyPost_ret (results_cell Tryz.results30 _ Vz w.heap.size 0 [.int .i64 4, .int .u64 0, .int .u64 0, .int .u64 0, .slice none 0 0, .int .i64 x1, .int .i64 x2, .int .i64 x3, .int .i64 x4, .int .i64 x5, .int .i64 x6, .int .u64 (u7 : Int), .int .i64 x8, .string t11, .int .i64 x9, .int .i64 x10, .string t12] _ rfl R Tryz.underlying27 (by rfl) (by kernel_rfl)) rfl ?_
  exact ⟨none, 0, rfl, World.ownsRow_nil _ _ _ _, hbl⟩
end Go.Proofs.YtidfgjgbigedeaaGreatDoor
end

section
namespace Go.Proofs.YtidfgjgbigedeaaGreatDoor
open Go.RowKit Go.Lib Go.Wq Go.Mq
set_option linter.unusedVariables false
set_option linter.unusedSimpArgs false
set_option maxRecDepth 100000

theorem rMsOf_any (k : Nat) (h1 : 1 ≤ k) (h4 : k ≤ 4) (l : List Fld) (a : Option Addr) (c : Nat) (s : List UInt8) (w : World) (hin : FldsIn w w.heap.size l a l.length) (he : encAll (itsK k) l = some s) (hs : s.length ≤ 65536) (hk : (fat l 0).U = k) :
    Calls Tryz.prog 30 #[.int .i64 (k : Int), .slice a l.length c] w (MsEnds w (msOf wR k l)) := by
  have hlen := flds_len_k he
  obtain rfl | rfl | rfl | rfl : k = 1 ∨ k = 2 ∨ k = 3 ∨ k = 4 := by omega
  · have h3 : l.length = 3 := hlen
    obtain ⟨b, o, rfl, hb, hf⟩ := flds_c hin (by omega)
    have g1 := (hf 1 (by omega)).u
    have g2 := (hf 2 (by omega)).u
    simp only [Nat.one_mul, Nat.reduceMul] at g1 g2
    rw [h3]
    exact rMsOf_1 _ _ b o c w hb g1 g2
  · have h5 : l.length = 5 := hlen
    obtain ⟨hr1, hr2⟩ := advert_rows he
    obtain ⟨b, o, rfl, hb, hf⟩ := flds_c hin (by omega)
    have g1 := (hf 1 (by omega)).u
    have g2 := (hf 2 (by omega)).u
    have g3 := (hf 3 (by omega)).u
    obtain ⟨xa, xc, g4, grow⟩ := (hf 4 (by omega)).l
    simp only [Nat.zero_mul, Nat.add_zero, Nat.one_mul, Nat.reduceMul, Nat.add_assoc, Nat.reduceAdd] at g1 g2 g3 g4
    rw [h5]
    exact rMsOf_2 _ _ _ xa xc (fat l 4).L b o c w hb g1 g2 g3 g4 grow hr2 (by omega)
  · have h5 : l.length = 4 := hlen
    obtain ⟨b, o, rfl, hb, hf⟩ := flds_c hin (by omega)
    have g1 := (hf 1 (by omega)).u
    have g2 := (hf 2 (by omega)).u
    have g3 := (hf 3 (by omega)).u
    simp only [Nat.one_mul, Nat.reduceMul] at g1 g2 g3
    rw [h5]
    exact rMsOf_3 _ _ _ b o c w hb g1 g2 g3
  · have h13 : l.length = 13 := hlen
    obtain ⟨b, o, rfl, hb, hf⟩ := flds_c hin (by omega)
    rw [h13]
    have C : ∀ {x y : Nat} {v : Value}, w.cell? ⟨b, x, none⟩ = some v → x = y → w.cell? ⟨b, y, none⟩ = some v := fun h e => by subst e; exact h
    exact rMsOf_4 (fat l 1).U (fat l 2).U (fat l 3).U (fat l 4).U (fat l 5).U (fat l 6).U (fat l 8).U (fat l 9).U (fat l 10).U (fat l 7).U (bOf (fat l 11).T) (bOf (fat l 12).T) b o c w hb
      (C (hf 1 (by omega)).u (by omega)) (C (hf 2 (by omega)).u (by omega)) (C (hf 3 (by omega)).u (by omega)) (C (hf 4 (by omega)).u (by omega)) (C (hf 5 (by omega)).u (by omega)) (C (hf 6 (by omega)).u (by omega)) (C (hf 8 (by omega)).u (by omega)) (C (hf 9 (by omega)).u (by omega)) (C (hf 10 (by omega)).u (by omega)) (C (hf 7 (by omega)).u (by omega)) (C (hf 11 (by omega)).t (by omega)) (C (hf 12 (by omega)).t (by omega))
end Go.Proofs.YtidfgjgbigedeaaGreatDoor
end
