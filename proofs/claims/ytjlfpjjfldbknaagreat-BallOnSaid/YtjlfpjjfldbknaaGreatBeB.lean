/- Balls: the document's SameEntries. Balls: SameEntries at rows of one's own; the document's table. Balls: the document's Table; the law of tables. -/
import Derived.Test.YtjlfpjjfldbknaaGreatBeA
section
namespace Go.Proofs.YtjlfpjjfldbknaaGreat
open Go.RowKit Go.Lib Go.Fq Go.Pq Go.Iq Go.Nq Go.Ow Go.Bq
set_option linter.unusedVariables false
set_option linter.unusedSimpArgs false
set_option maxRecDepth 100000

/-- Entries in memory. -/
def EnsIn (w : World) (l : List En) (g : Nat) : Prop := ∃ cur, w.heap[g]? = some (.cells cur 43 (0, 0)) ∧ ∀ k (h : k < l.length) (j : Nat) (u : Value), (enC l[k])[j]? = some u → w.cell? ⟨g, k * 6 + j, none⟩ = some u
theorem EnsIn.kept {w w' : World} {l : List En} {g : Nat} (h : EnsIn w l g) (k : w'.heap[g]? = w.heap[g]?) : EnsIn w' l g := by
  obtain ⟨cur, h1, h2⟩ := h
  exact ⟨cur, k.trans h1, fun i hi j u hu => (World.cell?_of_block k).trans (h2 i hi j u hu)⟩
theorem EnsIn.low {w : World} {l : List En} {g : Nat} (h : EnsIn w l g) : g < w.heap.size := by obtain ⟨cur, h1, -⟩ := h; exact (Array.getElem?_eq_some_iff.1 h1).1
theorem ens_in {w : World} {base : Nat} {l : List En} {v : Value} (ho : Own w base 43 6 v l.length (enRow l)) (hn : 0 < l.length) : ∃ g c, v = .slice (some ⟨g, 0, none⟩) l.length c ∧ EnsIn w l g := by
  rcases ho with ⟨h0, -⟩ | ⟨g, cap, cur, rfl, hbg, hg, hnc, hcm, hcs, hx⟩
  · omega
  refine ⟨g, cap, rfl, cur, hg, fun k hk j u hu => ?_⟩
  have hj : j < 6 := by have := (List.getElem?_eq_some_iff.1 hu).1; rw [show (enC l[k]).length = 6 from rfl] at this; exact this
  rw [cell_of_row w g _ cur _ (0, 0) hg, ← Array.getElem?_toList]
  have e1 : (cur.toList.take (l.length * 6))[k * 6 + j]? = cur.toList[k * 6 + j]? := by rw [List.getElem?_take, if_pos (by omega)]
  rw [← e1, hx]
  unfold enRow
  rw [flat_get enC 6 (fun _ => rfl) l k j hk hj]
  exact hu
def SeS (V : World) (g1 g2 k : Nat) (cs : List Value) : Prop := V.rangeAt g1 (k * 6) cs ∧ V.rangeAt g2 (k * 6) cs
/-- An entry's block. -/
def EnL (w : World) (n : Nat) (cs : List Value) : Prop := w.heap[n]? = some (.cells cs.toArray 43 (0, 0))
theorem EnL.kept {w w' : World} {n : Nat} {cs : List Value} (h : EnL w n cs) (k : w'.heap[n]? = w.heap[n]?) : EnL w' n cs := k.trans h
theorem EnL.there {w : World} {n m : Nat} {cs : List Value} (h : EnL w n cs) (hm : cs.length = m) : w.there n 0 m := fun j hj => by
  constructor
  · rw [Nat.zero_add, cell_of_row w n j _ _ (0, 0) h, Array.getElem?_eq_getElem (by simpa [hm] using hj)]; rfl
  · exact frozen_of_row w n _ _ _ h
theorem EnL.set {w : World} {n : Nat} {zs : List Value} (h : EnL w n zs) (cs : List Value) (hl : zs.length = cs.length) : EnL (w.setCells n 0 cs) n cs := by
  obtain ⟨cur, h1, h2⟩ := setCells_block n cs 0 w _ h (by simp [hl])
  have e : cur = cs.toArray := by
    apply Array.ext_getElem?
    intro j
    rw [← Array.getElem?_toList, h2.2 j]
    by_cases hj : j < cs.length
    · rw [if_pos ⟨Nat.zero_le _, by omega⟩]; simp
    · rw [if_neg (by omega)]
      simp only [List.getElem?_toArray]
      rw [List.getElem?_eq_none (by omega), List.getElem?_eq_none (by omega)]
  rw [e] at h1; exact h1
theorem EnL.cells {w : World} {n : Nat} {a0 a1 a2 a3 a4 a5 : Value} (h : EnL w n [a0, a1, a2, a3, a4, a5]) : w.cell? ⟨n, 0, none⟩ = some a0 ∧ w.cell? ⟨n, 1, none⟩ = some a1 ∧ w.cell? ⟨n, 2, none⟩ = some a2 ∧ w.cell? ⟨n, 3, none⟩ = some a3 ∧ w.cell? ⟨n, 4, none⟩ = some a4 ∧ w.cell? ⟨n, 5, none⟩ = some a5 :=
  ⟨by rw [cell_of_row w n 0 _ _ (0, 0) h]; rfl, by rw [cell_of_row w n 1 _ _ (0, 0) h]; rfl, by rw [cell_of_row w n 2 _ _ (0, 0) h]; rfl, by rw [cell_of_row w n 3 _ _ (0, 0) h]; rfl, by rw [cell_of_row w n 4 _ _ (0, 0) h]; rfl, by rw [cell_of_row w n 5 _ _ (0, 0) h]; rfl⟩
set_option maxHeartbeats 16000000 in
theorem sameEnts_any (l : List En) (g1 g2 c1 c2 : Nat) (w : World) (h1 : EnsIn w l g1) (h2 : EnsIn w l g2) (hn : l.length ≤ 768) :
    Calls Tryz.prog 10 #[.slice (some ⟨g1, 0, none⟩) l.length c1, .slice (some ⟨g2, 0, none⟩) l.length c2] w fun e w' => e = .returned (.bool true) ∧ Below w.heap.size w w' := by
  have hst := g_storeL
  have H1 := Lib.hid (fun V (hV : Below w.heap.size w V) => h1.kept (hV.block g1 h1.low))
  have H2 := Lib.hid (fun V (hV : Below w.heap.size w V) => h2.kept (hV.block g2 h2.low))
  have HN := Lib.hid hn
  clear h1 h2 hn
  go_enter Tryz.func10, Tryz.ntmps10
  go_wp2_with fail
  go_loopw [5] (fun v wr => ∃ k : Nat, v = .int .i64 (k : Int) ∧ k ≤ l.length ∧ Below w.heap.size w wr) (fun v _ => l.length - (RowKit.intOf v).toNat)
  case atStart => exact ⟨0, rfl, Nat.zero_le _, Below.refl _ _⟩
  case round =>
    obtain ⟨k, rfl, hk, hbel⟩ := hrel
    obtain ⟨wo, hwo⟩ : ∃ wo, wo = wr := ⟨_, rfl⟩
    subst hwo
    have HBE := Lib.hid hbel
    by_cases hlt : k < l.length
    · have hlti : (k : Int) < (l.length : Int) := by omega
      have hk0 : (0 : Int) ≤ (k : Int) := by omega
      have hkw : IntKind.i64.wrap ((k : Int) + 1) = (k : Int) + 1 := by rw [IntKind.wrap_i64]; have := HN.out; omega
      have HK1 : Hid (k + 1 ≤ l.length ∧ l.length - (k + 1) < l.length - k ∧ ((k : Int) + 1).toNat = k + 1 ∧ (k : Int) + 1 = ((k + 1 : Nat) : Int)) := Lib.hid ⟨by omega, by omega, by omega, by omega⟩
      obtain ⟨a0, a1, a2, a3, a4, a5, hen⟩ : ∃ a0 a1 a2 a3 a4 a5, enC l[k] = [.int .i64 a0, .int .i64 a1, .float .f64 a2, .int .i64 a3, .float .f64 a4, .int .i64 a5] := ⟨_, _, _, _, _, _, rfl⟩
      have HSS : Hid (∀ V, Below w.heap.size w V → SeS V g1 g2 k [.int .i64 a0, .int .i64 a1, .float .f64 a2, .int .i64 a3, .float .f64 a4, .int .i64 a5]) := Lib.hid (fun V hV => by
        obtain ⟨cu1, -, q1⟩ := H1.out V hV
        obtain ⟨cu2, -, q2⟩ := H2.out V hV
        rw [← hen]
        exact ⟨fun j u hj => q1 k hlt j u hj, fun j u hj => q2 k hlt j u hj⟩)
      clear hbel hlt hk hen
      have he0 : (a0 != a0) = false := by simp
      have he1 : (a1 != a1) = false := by simp
      have he3 : (a3 != a3) = false := by simp
      have he5 : (a5 != a5) = false := by simp
      go_upto_region 6 with (fail)
      refine wp_region_held_drew (S := fun V => SeS V g1 g2 k [.int .i64 a0, .int .i64 a1, .float .f64 a2, .int .i64 a3, .float .f64 a4, .int .i64 a5]) (by kernel_rfl) (HSS.out _ (Below.drew HBE.out)) (fun hH => ?_)
      have hs0 := HSS.out _ (Below.drew HBE.out)
      have C0 : Hid (Below w.heap.size w wo.drew) := Lib.hid (Below.drew HBE.out)
      generalize wo.drew = V0 at *
      refine tk 0 (by assumption) rfl (by kernel_rfl) (fun _ _ _ h => h) (fun V hV => by go_simp; try with_reducible rfl) ?_
      try simp only [Act.put, sqA, sqB, sqC, sqD, sqE, sqF]
      refine tk 1 (by assumption) rfl (by kernel_rfl) (fun _ _ _ h => h) (fun V hV => by go_simp; try with_reducible rfl) ?_
      try simp only [Act.put, sqA, sqB, sqC, sqD, sqE, sqF]
      refine tk 2 (by assumption) rfl (by kernel_rfl) (fun _ _ _ h => h) (fun V hV => by go_simp; try with_reducible rfl) ?_
      try simp only [Act.put, sqA, sqB, sqC, sqD, sqE, sqF]
      refine tk 3 (by assumption) rfl (by kernel_rfl) (fun _ _ _ h => h) (tk_load 43 (.tmp 21) rfl g1 (k * 6) rfl [.int .i64 a0, .int .i64 a1, .float .f64 a2, .int .i64 a3, .float .f64 a4, .int .i64 a5] _ (fun V hV => hV.1) Tryz.underlying43 (by rfl) (by kernel_rfl)) ?_
      try simp only [Act.put, sqA, sqB, sqC, sqD, sqE, sqF]
      refine tk 4 (by assumption) rfl (by kernel_rfl) (fun _ _ _ h => h) (fun V hV => by go_simp; try with_reducible rfl) ?_
      try simp only [Act.put, sqA, sqB, sqC, sqD, sqE, sqF]
      refine tk 5 (by assumption) rfl (by kernel_rfl) (fun _ _ _ h => h) (fun V hV => by go_simp; try with_reducible rfl) ?_
      try simp only [Act.put, sqA, sqB, sqC, sqD, sqE, sqF]
      refine tk 6 (by assumption) rfl (by kernel_rfl) (fun _ _ _ h => h) (fun V hV => by go_simp; try with_reducible rfl) ?_
      try simp only [Act.put, sqA, sqB, sqC, sqD, sqE, sqF]
      refine tk 7 (by assumption) rfl (by kernel_rfl) (fun _ _ _ h => h) (tk_load 43 (.tmp 25) rfl g2 (k * 6) rfl [.int .i64 a0, .int .i64 a1, .float .f64 a2, .int .i64 a3, .float .f64 a4, .int .i64 a5] _ (fun V hV => hV.2) Tryz.underlying43 (by rfl) (by kernel_rfl)) ?_
      try simp only [Act.put, sqA, sqB, sqC, sqD, sqE, sqF]
      refine wpAnyH_ready (rs := [8, 9]) (by kernel_rfl) (by simp) ?_
      refine AllReadyH.cons (o := _) rfl (fun K hK => ?_) (AllReadyH.cons (o := _) rfl (fun K hK => ?_) AllReadyH.nil)
      · go_simp
        refine hK.out _ _ (HSS.out _ (gNx C0.out (gAl _ _))) (fun hH => ?_)
        clear hK K
        have E8 : Hid (EnL (V0.alloc (.cells #[.int .i64 0, .int .i64 0, .float .f64 0, .int .i64 0, .float .f64 0, .int .i64 0] 43)) V0.heap.size [.int .i64 0, .int .i64 0, .float .f64 0, .int .i64 0, .float .f64 0, .int .i64 0]) := Lib.hid (heap_alloc_new V0 _)
        have C1 := Lib.hid (gNx C0.out (gAl V0 (.cells #[.int .i64 0, .int .i64 0, .float .f64 0, .int .i64 0, .float .f64 0, .int .i64 0] 43)))
        have L8 : Hid (w.heap.size ≤ V0.heap.size ∧ V0.heap.size < (V0.alloc (.cells #[.int .i64 0, .int .i64 0, .float .f64 0, .int .i64 0, .float .f64 0, .int .i64 0] 43)).heap.size) := Lib.hid ⟨C0.out.size, by simp⟩
        obtain ⟨n8, hn8⟩ : ∃ n, n = V0.heap.size := ⟨_, rfl⟩
        obtain ⟨V1, hV⟩ : ∃ V, V = V0.alloc (.cells #[.int .i64 0, .int .i64 0, .float .f64 0, .int .i64 0, .float .f64 0, .int .i64 0] 43) := ⟨_, rfl⟩
        rw [← hV, ← hn8]
        rw [← hV, ← hn8] at E8 L8
        rw [← hV] at C1
        clear hV hn8
        try simp only [Act.put, sqA, sqB, sqC, sqD, sqE, sqF]
        refine wpAnyH_ready (rs := [9]) (by kernel_rfl) (by simp) ?_
        refine AllReadyH.cons (o := _) rfl (fun K hK => ?_) AllReadyH.nil
        go_simp
        refine hK.out _ _ (HSS.out _ (gNx C1.out (gAl _ _))) (fun hH => ?_)
        clear hK K
        have E9 : Hid (EnL (V1.alloc (.cells #[.int .i64 0, .int .i64 0, .float .f64 0, .int .i64 0, .float .f64 0, .int .i64 0] 43)) V1.heap.size [.int .i64 0, .int .i64 0, .float .f64 0, .int .i64 0, .float .f64 0, .int .i64 0]) := Lib.hid (heap_alloc_new V1 _)
        have C2 := Lib.hid (gNx C1.out (gAl V1 (.cells #[.int .i64 0, .int .i64 0, .float .f64 0, .int .i64 0, .float .f64 0, .int .i64 0] 43)))
        have L9 : Hid (w.heap.size ≤ V1.heap.size ∧ V1.heap.size < (V1.alloc (.cells #[.int .i64 0, .int .i64 0, .float .f64 0, .int .i64 0, .float .f64 0, .int .i64 0] 43)).heap.size) := Lib.hid ⟨C1.out.size, by simp⟩
        have D : Hid (n8 ≠ V1.heap.size) := Lib.hid (Nat.ne_of_lt L8.out.2)
        replace E8 := Lib.hid (E8.out.kept ((gAl V1 (.cells #[.int .i64 0, .int .i64 0, .float .f64 0, .int .i64 0, .float .f64 0, .int .i64 0] 43)).block _ L8.out.2))
        obtain ⟨n9, hn9⟩ : ∃ n, n = V1.heap.size := ⟨_, rfl⟩
        obtain ⟨V2, hV⟩ : ∃ V, V = V1.alloc (.cells #[.int .i64 0, .int .i64 0, .float .f64 0, .int .i64 0, .float .f64 0, .int .i64 0] 43) := ⟨_, rfl⟩
        rw [← hV, ← hn9]
        rw [← hV, ← hn9] at E9 L9
        rw [← hV] at C2
        rw [← hn9] at D
        rw [← hV] at E8
        clear hV hn9
        try simp only [Act.put, sqA, sqB, sqC, sqD, sqE, sqF]
        refine wpAnyH_ready (rs := [10]) (by kernel_rfl) (by simp) ?_
        refine AllReadyH.cons (o := _) rfl (fun K hK => ?_) AllReadyH.nil
        rw [if_pos (by rfl)]
        refine wp_store_mid _ _ _ rfl n8 0 #[.int .i64 a0, .int .i64 a1, .float .f64 a2, .int .i64 a3, .float .f64 a4, .int .i64 a5] rfl rfl (E8.out.there rfl) (by kernel_rfl) (all_oneCell_toArray (cs := [.int .i64 a0, .int .i64 a1, .float .f64 a2, .int .i64 a3, .float .f64 a4, .int .i64 a5]) (by intro v hv; simp only [List.mem_cons, List.not_mem_nil, or_false] at hv; rcases hv with rfl | rfl | rfl | rfl | rfl | rfl <;> rfl)) ?_
        refine hK.out _ _ (HSS.out _ (below_set n8 L8.out.1 _ _ _ C2.out)) (fun hH => ?_)
        clear hK K
        replace E8 := Lib.hid (E8.out.set [.int .i64 a0, .int .i64 a1, .float .f64 a2, .int .i64 a3, .float .f64 a4, .int .i64 a5] rfl)
        replace E9 := Lib.hid (E9.out.kept (setCells_other n8 [.int .i64 a0, .int .i64 a1, .float .f64 a2, .int .i64 a3, .float .f64 a4, .int .i64 a5] 0 V2 n9 (by first | exact D.out | exact D.out.symm)))
        have C3 := Lib.hid (below_set n8 L8.out.1 [.int .i64 a0, .int .i64 a1, .float .f64 a2, .int .i64 a3, .float .f64 a4, .int .i64 a5] 0 V2 C2.out)
        obtain ⟨V3, hV⟩ : ∃ V, V = V2.setCells n8 0 [.int .i64 a0, .int .i64 a1, .float .f64 a2, .int .i64 a3, .float .f64 a4, .int .i64 a5] := ⟨_, rfl⟩
        have hV2 : V2.setCells n8 0 (#[.int .i64 a0, .int .i64 a1, .float .f64 a2, .int .i64 a3, .float .f64 a4, .int .i64 a5] : Array Value).toList = V3 := hV.symm
        rw [hV2]
        rw [← hV] at E8 E9 C3
        clear hV hV2
        try simp only [Act.put, sqA, sqB, sqC, sqD, sqE, sqF]
        refine wpAnyH_ready (rs := [11]) (by kernel_rfl) (by simp) ?_
        refine AllReadyH.cons (o := _) rfl (fun K hK => ?_) AllReadyH.nil
        rw [if_pos (by rfl)]
        refine wp_store_mid _ _ _ rfl n9 0 #[.int .i64 a0, .int .i64 a1, .float .f64 a2, .int .i64 a3, .float .f64 a4, .int .i64 a5] rfl rfl (E9.out.there rfl) (by kernel_rfl) (all_oneCell_toArray (cs := [.int .i64 a0, .int .i64 a1, .float .f64 a2, .int .i64 a3, .float .f64 a4, .int .i64 a5]) (by intro v hv; simp only [List.mem_cons, List.not_mem_nil, or_false] at hv; rcases hv with rfl | rfl | rfl | rfl | rfl | rfl <;> rfl)) ?_
        refine hK.out _ _ (HSS.out _ (below_set n9 L9.out.1 _ _ _ C3.out)) (fun hH => ?_)
        clear hK K
        replace E9 := Lib.hid (E9.out.set [.int .i64 a0, .int .i64 a1, .float .f64 a2, .int .i64 a3, .float .f64 a4, .int .i64 a5] rfl)
        replace E8 := Lib.hid (E8.out.kept (setCells_other n9 [.int .i64 a0, .int .i64 a1, .float .f64 a2, .int .i64 a3, .float .f64 a4, .int .i64 a5] 0 V3 n8 (by first | exact D.out | exact D.out.symm)))
        have C4 := Lib.hid (below_set n9 L9.out.1 [.int .i64 a0, .int .i64 a1, .float .f64 a2, .int .i64 a3, .float .f64 a4, .int .i64 a5] 0 V3 C3.out)
        obtain ⟨V4, hV⟩ : ∃ V, V = V3.setCells n9 0 [.int .i64 a0, .int .i64 a1, .float .f64 a2, .int .i64 a3, .float .f64 a4, .int .i64 a5] := ⟨_, rfl⟩
        have hV2 : V3.setCells n9 0 (#[.int .i64 a0, .int .i64 a1, .float .f64 a2, .int .i64 a3, .float .f64 a4, .int .i64 a5] : Array Value).toList = V4 := hV.symm
        rw [hV2]
        rw [← hV] at E8 E9 C4
        clear hV hV2
        try simp only [Act.put, sqA, sqB, sqC, sqD, sqE, sqF]
        refine wpAnyH_done (by kernel_rfl) ?_ _
        obtain ⟨z0, z1, z2, z3, z4, z5⟩ := E8.out.cells
        obtain ⟨y0, y1, y2, y3, y4, y5⟩ := E9.out.cells
        clear hs0 C0 C1 C2 C3 hH
        go_wp2_with ((go_at_call 27; refine (same_self _ _).mono ?_; rintro e w' ⟨rfl, rfl⟩))
        refine ⟨⟨k + 1, congrArg (Value.int .i64) HK1.out.2.2.2, HK1.out.1, C4.out⟩, ?_⟩
        show l.length - ((k : Int) + 1).toNat < l.length - (k : Int).toNat
        rw [HK1.out.2.2.1]
        exact HK1.out.2.1
      · go_simp
        refine hK.out _ _ (HSS.out _ (gNx C0.out (gAl _ _))) (fun hH => ?_)
        clear hK K
        have E9 : Hid (EnL (V0.alloc (.cells #[.int .i64 0, .int .i64 0, .float .f64 0, .int .i64 0, .float .f64 0, .int .i64 0] 43)) V0.heap.size [.int .i64 0, .int .i64 0, .float .f64 0, .int .i64 0, .float .f64 0, .int .i64 0]) := Lib.hid (heap_alloc_new V0 _)
        have C1 := Lib.hid (gNx C0.out (gAl V0 (.cells #[.int .i64 0, .int .i64 0, .float .f64 0, .int .i64 0, .float .f64 0, .int .i64 0] 43)))
        have L9 : Hid (w.heap.size ≤ V0.heap.size ∧ V0.heap.size < (V0.alloc (.cells #[.int .i64 0, .int .i64 0, .float .f64 0, .int .i64 0, .float .f64 0, .int .i64 0] 43)).heap.size) := Lib.hid ⟨C0.out.size, by simp⟩
        obtain ⟨n9, hn9⟩ : ∃ n, n = V0.heap.size := ⟨_, rfl⟩
        obtain ⟨V1, hV⟩ : ∃ V, V = V0.alloc (.cells #[.int .i64 0, .int .i64 0, .float .f64 0, .int .i64 0, .float .f64 0, .int .i64 0] 43) := ⟨_, rfl⟩
        rw [← hV, ← hn9]
        rw [← hV, ← hn9] at E9 L9
        rw [← hV] at C1
        clear hV hn9
        try simp only [Act.put, sqA, sqB, sqC, sqD, sqE, sqF]
        refine wpAnyH_ready (rs := [8]) (by kernel_rfl) (by simp) ?_
        refine AllReadyH.cons (o := _) rfl (fun K hK => ?_) AllReadyH.nil
        go_simp
        refine hK.out _ _ (HSS.out _ (gNx C1.out (gAl _ _))) (fun hH => ?_)
        clear hK K
        have E8 : Hid (EnL (V1.alloc (.cells #[.int .i64 0, .int .i64 0, .float .f64 0, .int .i64 0, .float .f64 0, .int .i64 0] 43)) V1.heap.size [.int .i64 0, .int .i64 0, .float .f64 0, .int .i64 0, .float .f64 0, .int .i64 0]) := Lib.hid (heap_alloc_new V1 _)
        have C2 := Lib.hid (gNx C1.out (gAl V1 (.cells #[.int .i64 0, .int .i64 0, .float .f64 0, .int .i64 0, .float .f64 0, .int .i64 0] 43)))
        have L8 : Hid (w.heap.size ≤ V1.heap.size ∧ V1.heap.size < (V1.alloc (.cells #[.int .i64 0, .int .i64 0, .float .f64 0, .int .i64 0, .float .f64 0, .int .i64 0] 43)).heap.size) := Lib.hid ⟨C1.out.size, by simp⟩
        have D : Hid (n9 ≠ V1.heap.size) := Lib.hid (Nat.ne_of_lt L9.out.2)
        replace E9 := Lib.hid (E9.out.kept ((gAl V1 (.cells #[.int .i64 0, .int .i64 0, .float .f64 0, .int .i64 0, .float .f64 0, .int .i64 0] 43)).block _ L9.out.2))
        obtain ⟨n8, hn8⟩ : ∃ n, n = V1.heap.size := ⟨_, rfl⟩
        obtain ⟨V2, hV⟩ : ∃ V, V = V1.alloc (.cells #[.int .i64 0, .int .i64 0, .float .f64 0, .int .i64 0, .float .f64 0, .int .i64 0] 43) := ⟨_, rfl⟩
        rw [← hV, ← hn8]
        rw [← hV, ← hn8] at E8 L8
        rw [← hV] at C2
        rw [← hn8] at D
        rw [← hV] at E9
        clear hV hn8
        try simp only [Act.put, sqA, sqB, sqC, sqD, sqE, sqF]
        refine wpAnyH_ready (rs := [10]) (by kernel_rfl) (by simp) ?_
        refine AllReadyH.cons (o := _) rfl (fun K hK => ?_) AllReadyH.nil
        rw [if_pos (by rfl)]
        refine wp_store_mid _ _ _ rfl n8 0 #[.int .i64 a0, .int .i64 a1, .float .f64 a2, .int .i64 a3, .float .f64 a4, .int .i64 a5] rfl rfl (E8.out.there rfl) (by kernel_rfl) (all_oneCell_toArray (cs := [.int .i64 a0, .int .i64 a1, .float .f64 a2, .int .i64 a3, .float .f64 a4, .int .i64 a5]) (by intro v hv; simp only [List.mem_cons, List.not_mem_nil, or_false] at hv; rcases hv with rfl | rfl | rfl | rfl | rfl | rfl <;> rfl)) ?_
        refine hK.out _ _ (HSS.out _ (below_set n8 L8.out.1 _ _ _ C2.out)) (fun hH => ?_)
        clear hK K
        replace E8 := Lib.hid (E8.out.set [.int .i64 a0, .int .i64 a1, .float .f64 a2, .int .i64 a3, .float .f64 a4, .int .i64 a5] rfl)
        replace E9 := Lib.hid (E9.out.kept (setCells_other n8 [.int .i64 a0, .int .i64 a1, .float .f64 a2, .int .i64 a3, .float .f64 a4, .int .i64 a5] 0 V2 n9 (by first | exact D.out | exact D.out.symm)))
        have C3 := Lib.hid (below_set n8 L8.out.1 [.int .i64 a0, .int .i64 a1, .float .f64 a2, .int .i64 a3, .float .f64 a4, .int .i64 a5] 0 V2 C2.out)
        obtain ⟨V3, hV⟩ : ∃ V, V = V2.setCells n8 0 [.int .i64 a0, .int .i64 a1, .float .f64 a2, .int .i64 a3, .float .f64 a4, .int .i64 a5] := ⟨_, rfl⟩
        have hV2 : V2.setCells n8 0 (#[.int .i64 a0, .int .i64 a1, .float .f64 a2, .int .i64 a3, .float .f64 a4, .int .i64 a5] : Array Value).toList = V3 := hV.symm
        rw [hV2]
        rw [← hV] at E8 E9 C3
        clear hV hV2
        try simp only [Act.put, sqA, sqB, sqC, sqD, sqE, sqF]
        refine wpAnyH_ready (rs := [11]) (by kernel_rfl) (by simp) ?_
        refine AllReadyH.cons (o := _) rfl (fun K hK => ?_) AllReadyH.nil
        rw [if_pos (by rfl)]
        refine wp_store_mid _ _ _ rfl n9 0 #[.int .i64 a0, .int .i64 a1, .float .f64 a2, .int .i64 a3, .float .f64 a4, .int .i64 a5] rfl rfl (E9.out.there rfl) (by kernel_rfl) (all_oneCell_toArray (cs := [.int .i64 a0, .int .i64 a1, .float .f64 a2, .int .i64 a3, .float .f64 a4, .int .i64 a5]) (by intro v hv; simp only [List.mem_cons, List.not_mem_nil, or_false] at hv; rcases hv with rfl | rfl | rfl | rfl | rfl | rfl <;> rfl)) ?_
        refine hK.out _ _ (HSS.out _ (below_set n9 L9.out.1 _ _ _ C3.out)) (fun hH => ?_)
        clear hK K
        replace E9 := Lib.hid (E9.out.set [.int .i64 a0, .int .i64 a1, .float .f64 a2, .int .i64 a3, .float .f64 a4, .int .i64 a5] rfl)
        replace E8 := Lib.hid (E8.out.kept (setCells_other n9 [.int .i64 a0, .int .i64 a1, .float .f64 a2, .int .i64 a3, .float .f64 a4, .int .i64 a5] 0 V3 n8 (by first | exact D.out | exact D.out.symm)))
        have C4 := Lib.hid (below_set n9 L9.out.1 [.int .i64 a0, .int .i64 a1, .float .f64 a2, .int .i64 a3, .float .f64 a4, .int .i64 a5] 0 V3 C3.out)
        obtain ⟨V4, hV⟩ : ∃ V, V = V3.setCells n9 0 [.int .i64 a0, .int .i64 a1, .float .f64 a2, .int .i64 a3, .float .f64 a4, .int .i64 a5] := ⟨_, rfl⟩
        have hV2 : V3.setCells n9 0 (#[.int .i64 a0, .int .i64 a1, .float .f64 a2, .int .i64 a3, .float .f64 a4, .int .i64 a5] : Array Value).toList = V4 := hV.symm
        rw [hV2]
        rw [← hV] at E8 E9 C4
        clear hV hV2
        try simp only [Act.put, sqA, sqB, sqC, sqD, sqE, sqF]
        refine wpAnyH_done (by kernel_rfl) ?_ _
        obtain ⟨z0, z1, z2, z3, z4, z5⟩ := E8.out.cells
        obtain ⟨y0, y1, y2, y3, y4, y5⟩ := E9.out.cells
        clear hs0 C0 C1 C2 C3 hH
        go_wp2_with ((go_at_call 27; refine (same_self _ _).mono ?_; rintro e w' ⟨rfl, rfl⟩))
        refine ⟨⟨k + 1, congrArg (Value.int .i64) HK1.out.2.2.2, HK1.out.1, C4.out⟩, ?_⟩
        show l.length - ((k : Int) + 1).toNat < l.length - (k : Int).toNat
        rw [HK1.out.2.2.1]
        exact HK1.out.2.1
    · have hnk : ¬ (k : Int) < (l.length : Int) := by omega
      clear hlt hbel hk
      go_wp2_with fail
      go_ret
      exact ⟨rfl, HBE.out⟩
end Go.Proofs.YtjlfpjjfldbknaaGreat
end

section
namespace Go.Proofs.YtjlfpjjfldbknaaGreat
open Go.RowKit Go.Lib Go.Fq Go.Pq Go.Iq Go.Nq Go.Ow Go.Bq
set_option linter.unusedVariables false
set_option linter.unusedSimpArgs false
set_option maxRecDepth 100000

set_option maxHeartbeats 4000000 in
theorem sameEnts_nil (a1 a2 : Option Addr) (c1 c2 : Nat) (w : World) :
    Calls Tryz.prog 10 #[.slice a1 0 c1, .slice a2 0 c2] w fun e w' => e = .returned (.bool true) ∧ Below w.heap.size w w' := by
  go_enter Tryz.func10, Tryz.ntmps10
  go_wp2_with fail
  go_loopw [5] (fun v wr => v = .int .i64 0 ∧ Below w.heap.size w wr) (fun v _ => 0)
  case atStart => exact ⟨rfl, Below.refl _ _⟩
  case round =>
    obtain ⟨rfl, hbel⟩ := hrel
    go_wp2_with fail
    go_ret
    exact ⟨rfl, hbel⟩
theorem sameEnts_own (l : List En) (b1 b2 : Nat) (v1 v2 : Value) (w : World) (h1 : Own w b1 43 6 v1 l.length (enRow l)) (h2 : Own w b2 43 6 v2 l.length (enRow l)) (hn : l.length ≤ 768) :
    Calls Tryz.prog 10 #[v1, v2] w fun e w' => e = .returned (.bool true) ∧ Below w.heap.size w w' := by
  by_cases h0 : 0 < l.length
  · obtain ⟨g1, c1, rfl, m1⟩ := ens_in h1 h0
    obtain ⟨g2, c2, rfl, m2⟩ := ens_in h2 h0
    exact sameEnts_any l g1 g2 c1 c2 w m1 m2 hn
  · obtain ⟨a1, c1, rfl⟩ := h1.slice
    obtain ⟨a2, c2, rfl⟩ := h2.slice
    have e0 : l.length = 0 := by omega
    rw [e0]
    exact sameEnts_nil a1 a2 c1 c2 w
theorem tab_len (G : Gr) (lim : Nat) (u : Int) : (tabI G lim u).length ≤ 3 * G.nodes.length := by
  have h1 := tabK_len G lim u 1 G.nodes.length
  have h2 := tabK_len G lim u 2 G.nodes.length
  have h3 := tabK_len G lim u 3 G.nodes.length
  unfold tabI
  simp only [List.length_append]; omega
/-- The kinds below one. -/
noncomputable def TT (G : Gr) (lim : Nat) (u : Int) (q : Nat) : List En := (List.range q).flatMap (fun (j : Nat) => tabK G lim u ((j : Int) + 1) G.nodes.length)
theorem TT_go (G : Gr) (lim : Nat) (u : Int) (q : Nat) : TT G lim u (q + 1) = TT G lim u q ++ tabK G lim u ((q : Int) + 1) G.nodes.length := by
  unfold TT; rw [List.range_succ, List.flatMap_append, List.flatMap_singleton]
theorem TT_all (G : Gr) (lim : Nat) (u : Int) : TT G lim u 3 = tabI G lim u := by
  rw [TT_go, TT_go, TT_go]; unfold tabI; simp [TT]
theorem TT_len (G : Gr) (lim : Nat) (u : Int) (q : Nat) : (TT G lim u q).length ≤ q * G.nodes.length := by
  induction q with
  | zero => simp [TT]
  | succ q ih => rw [TT_go, List.length_append, Nat.succ_mul]; have := tabK_len G lim u ((q : Int) + 1) G.nodes.length; omega
theorem enV_form (G : Gr) (lim : Nat) (u : Int) (m : Nd) : ∃ (a0 : Int) (a2 : Nat) (a3 : Int) (a4 : Nat) (a5 : Int), enV G lim u m = [.int .i64 a0, .int .i64 (kindI G lim u m), .float .f64 a2, .int .i64 a3, .float .f64 a4, .int .i64 a5] := by
  unfold enV
  by_cases h : kindI G lim u m = 0
  · rw [if_pos h, h]; exact ⟨_, _, _, _, _, rfl⟩
  · rw [if_neg h]
    unfold enI
    split
    · exact ⟨_, _, _, _, _, rfl⟩
    · exact ⟨_, _, _, _, _, rfl⟩
/-- All rows of distances in memory. -/
def AllIn (w : World) (G : Gr) (lim ab : Nat) : Prop := ab < w.heap.size ∧ ∀ j, j < G.nodes.length → ∃ b c, w.cell? ⟨ab, j, none⟩ = some (.slice (some ⟨b, 0, none⟩) G.nodes.length c) ∧ b < w.heap.size ∧ ∀ t, t < G.nodes.length → w.cell? ⟨b, t, none⟩ = some (.float .f64 (dw (g_ (dst G lim j) t)))
theorem AllIn.below {w w' : World} {G : Gr} {lim ab : Nat} (h : AllIn w G lim ab) (k : Below w.heap.size w w') : AllIn w' G lim ab := ⟨Nat.lt_of_lt_of_le h.1 k.size, fun j hj => by
  obtain ⟨b, c, h1, h2, h3⟩ := h.2 j hj
  exact ⟨b, c, (k.cell (p := ⟨ab, j, none⟩) h.1).trans h1, Nat.lt_of_lt_of_le h2 k.size, fun t ht => (k.cell (p := ⟨b, t, none⟩) h2).trans (h3 t ht)⟩⟩
theorem all_in {w : World} {base : Nat} {G : Gr} {lim : Nat} {v : Value} {rws : List Value} (ho : Own w base 90 1 v G.nodes.length rws) (hr : ∀ j, j < G.nodes.length → ∃ x, rws[j]? = some x ∧ DsAt w G lim j x) (hn : 0 < G.nodes.length) : ∃ ab ac, v = .slice (some ⟨ab, 0, none⟩) G.nodes.length ac ∧ AllIn w G lim ab := by
  obtain ⟨g, cap, rfl, h1, -, h3, -⟩ := ho.range hn
  refine ⟨g, cap, rfl, h1, fun j hj => ?_⟩
  obtain ⟨x, x1, b, c, cs, rfl, y2, y3⟩ := hr j hj
  exact ⟨b, c, by simpa using h3 j _ x1, (Array.getElem?_eq_some_iff.1 y2).1, y3⟩
def TbS (V : World) (gb : Nat) (na la : Option Addr) (nc n lc m ab i db dc : Nat) : Prop := V.cell? ⟨gb, 0, none⟩ = some (.slice na n nc) ∧ V.cell? ⟨gb, 1, none⟩ = some (.slice la m lc) ∧ V.cell? ⟨ab, i, none⟩ = some (.slice (some ⟨db, 0, none⟩) n dc)
set_option maxHeartbeats 32000000 in
theorem rbTable_any (u : Int) (max ab ac : Nat) (G : Gr) (na : Option Addr) (nc : Nat) (la : Option Addr) (lc : Nat) (w : World) (hin : GrIn w G na la) (hz : checkG G = 0) (hl : qn max ≤ 4294967296) (hu : upB G.nodes u = true) (ha : AllIn w G (qn max) ab) :
    Calls Tryz.prog 25 #[.agg #[.slice na G.nodes.length nc, .slice la G.links.length lc], .int .i64 u, .slice (some ⟨ab, 0, none⟩) G.nodes.length ac] w fun e w' => ∃ v, e = .returned v ∧ Own w' w.heap.size 43 6 v (tabI G (qn max) u).length (enRow (tabI G (qn max) u)) ∧ Below w.heap.size w w' := by
  obtain ⟨W1, hW1⟩ : ∃ W1, W1 = w.alloc (.cells #[.slice na G.nodes.length nc, .slice la G.links.length lc] 25) := ⟨_, rfl⟩
  have b1 : Below w.heap.size w W1 := by rw [hW1]; exact gAl _ _
  have s1 : w.heap.size < W1.heap.size := by rw [hW1]; simp
  have r1 : W1.heap[w.heap.size]? = some (.cells #[.slice na G.nodes.length nc, .slice la G.links.length lc] 25 (0, 0)) := by rw [hW1]; exact heap_alloc_new w _
  obtain ⟨gb, hgb⟩ : ∃ gb, gb = w.heap.size := ⟨_, rfl⟩
  rw [← hgb] at r1 s1
  have HKG : Hid (∀ V, Below W1.heap.size W1 V → V.cell? ⟨gb, 0, none⟩ = some (.slice na G.nodes.length nc) ∧ V.cell? ⟨gb, 1, none⟩ = some (.slice la G.links.length lc)) := Lib.hid (fun V hV => by
    have := two_cells ((hV.block _ s1).trans r1)
    exact ⟨this.1, this.2.1⟩)
  have HB1 := Lib.hid b1
  have HIN : Hid (∀ V, Below W1.heap.size W1 V → GrIn V G na la) := Lib.hid (fun V hV => (hin.below b1).below hV)
  have HZ := Lib.hid hz
  have HL := Lib.hid hl
  have HU := Lib.hid hu
  have HAI : Hid (∀ V, Below W1.heap.size W1 V → AllIn V G (qn max) ab) := Lib.hid (fun V hV => (ha.below b1).below hV)
  have HNL : Hid (G.nodes.length ≤ 256) := Lib.hid (check_zero.1 hz).1
  have HID : Hid (∀ k (hk : k < G.nodes.length), G.nodes[k].id = (idf G.nodes k : Int)) := Lib.hid (fun k hk => (idf_is (check_zero.1 hz).2.2.1 hk).1)
  have HWS : Hid (W1 = w.alloc (.cells #[.slice na G.nodes.length nc, .slice la G.links.length lc] 25) ∧ w.heap.size = gb) := Lib.hid ⟨hW1, hgb.symm⟩
  obtain ⟨g0, g1⟩ := HKG.out W1 (Below.refl _ _)
  clear hin b1 s1 r1 hW1 hgb hz hl hu ha
  go_enter Tryz.func25, Tryz.ntmps25
  go_upto_region 1 with (fail)
  rw [← HWS.out.1]
  clear g0 g1
  go_wp2_with fail
  go_loopw [8, 7] (fun kk v wr => ∃ q : Nat, kk = .int .i64 ((q : Int) + 1) ∧ q ≤ 3 ∧ Own wr W1.heap.size 43 6 v (TT G (qn max) u q).length (enRow (TT G (qn max) u q)) ∧ Below W1.heap.size W1 wr) (fun kk _ _ => 4 - (RowKit.intOf kk).toNat)
  case atStart => exact ⟨0, rfl, by omega, Or.inl ⟨rfl, rfl, _, rfl⟩, gAl _ _⟩
  case round =>
    obtain ⟨q, rfl, hq, ho, hbx⟩ := hrel
    obtain ⟨wi, hwi⟩ : ∃ wi, wi = wr := ⟨_, rfl⟩
    subst hwi
    have HOI := Lib.hid ho
    have HXI := Lib.hid hbx
    have hqw : IntKind.i64.wrap ((q : Int) + 1 + 1) = (q : Int) + 1 + 1 := by rw [IntKind.wrap_i64]; omega
    have HQW := Lib.hid hqw
    clear hqw
    by_cases hlq : q < 3
    · have hq3 : (q : Int) + 1 ≤ 3 := by omega
      have HQ : Hid (q + 1 ≤ 3 ∧ 4 - (q + 1 + 1) < 4 - (q + 1) ∧ ((q : Int) + 1).toNat = q + 1 ∧ ((q : Int) + 1 + 1).toNat = q + 1 + 1 ∧ (q : Int) + 1 + 1 = ((q + 1 : Nat) : Int) + 1) := Lib.hid ⟨by omega, by omega, by omega, by omega, by omega⟩
      have HTL : Hid ((TT G (qn max) u q).length ≤ 512) := Lib.hid (by have := TT_len G (qn max) u q; have := HNL.out; have := HQ.out.1; have : q * G.nodes.length ≤ 2 * 256 := Nat.mul_le_mul (by omega) (by omega); omega)
      obtain ⟨ai, ci, rfl⟩ := ho.slice
      clear ho hbx hq hlq
      go_wp2_with fail
      go_loopw [9, 7] (fun ii v wr => ∃ i : Nat, ii = .int .i64 (i : Int) ∧ i ≤ G.nodes.length ∧ Own wr W1.heap.size 43 6 v (TT G (qn max) u q ++ tabK G (qn max) u ((q : Int) + 1) i).length (enRow (TT G (qn max) u q ++ tabK G (qn max) u ((q : Int) + 1) i)) ∧ Below W1.heap.size W1 wr) (fun ii _ _ => G.nodes.length - (RowKit.intOf ii).toNat)
      case atStart => exact ⟨0, rfl, Nat.zero_le _, by rw [show tabK G (qn max) u ((q : Int) + 1) 0 = [] by simp [tabK], List.append_nil]; exact HOI.out, HXI.out⟩
      case round =>
        obtain ⟨i, rfl, hi, ho, hbx⟩ := hrel
        obtain ⟨wo, hwo⟩ : ∃ wo, wo = wr := ⟨_, rfl⟩
        subst hwo
        have HXW := Lib.hid hbx
        obtain ⟨g0, g1⟩ := HKG.out wo hbx
        rw [HWS.out.2]
        obtain ⟨LL, hLL⟩ : ∃ LL, LL = TT G (qn max) u q ++ tabK G (qn max) u ((q : Int) + 1) i := ⟨_, rfl⟩
        have HLL := Lib.hid hLL
        have HLN : Hid (LL.length ≤ 768) := Lib.hid (by rw [hLL, List.length_append]; have := HTL.out; have := tabK_len G (qn max) u ((q : Int) + 1) i; have := HNL.out; omega)
        rw [← hLL] at ho
        obtain ⟨al, cl, rfl⟩ := ho.slice
        have HOW := Lib.hid ho
        by_cases hlt : i < G.nodes.length
        · have hlti : (i : Int) < (G.nodes.length : Int) := by omega
          have hi0 : (0 : Int) ≤ (i : Int) := by omega
          have hiw : IntKind.i64.wrap ((i : Int) + 1) = (i : Int) + 1 := by rw [IntKind.wrap_i64]; have := HNL.out; omega
          have HK1 : Hid (i + 1 ≤ G.nodes.length ∧ G.nodes.length - (i + 1) < G.nodes.length - i ∧ ((i : Int) + 1).toNat = i + 1 ∧ (i : Int) + 1 = ((i + 1 : Nat) : Int)) := Lib.hid ⟨by omega, by omega, by omega, by omega⟩
          have HGO := Lib.hid (tabK_go G (qn max) u ((q : Int) + 1) hlt)
          obtain ⟨b, o, hna, hbb, hnc⟩ := (HIN.out W1 (Below.refl _ _)).nodes.at i hlt
          obtain ⟨n0, n1, -⟩ := hnc i hlt
          rw [HID.out i hlt] at n0
          replace n0 := (hbx.cell (p := ⟨b, o + i * 3, none⟩) hbb).trans n0
          replace n1 := (hbx.cell (p := ⟨b, o + i * 3 + 1, none⟩) hbb).trans n1
          have HME : Hid (G.nodes[i] ∈ G.nodes) := Lib.hid (List.getElem_mem hlt)
          have HPI : Hid (pickI G (qn max) u ((q : Int) + 1) G.nodes[i] = if G.nodes[i].up = true ∧ (idf G.nodes i : Int) ≠ u ∧ kindI G (qn max) u G.nodes[i] = (q : Int) + 1 then [enI G (qn max) u G.nodes[i]] else []) := Lib.hid (by unfold pickI; rw [HID.out i hlt])
          obtain ⟨db, dc, d1, d2, d3⟩ := (HAI.out W1 (Below.refl _ _)).2 i hlt
          have HSS : Hid (∀ V, Below W1.heap.size W1 V → TbS V gb na la nc G.nodes.length lc G.links.length ab i db dc) := Lib.hid (fun V hV => ⟨(HKG.out V hV).1, (HKG.out V hV).2, (hV.cell (p := ⟨ab, i, none⟩) (HAI.out W1 (Below.refl _ _)).1).trans d1⟩)
          have HEN : Hid (G.nodes[i].up = true → ∀ V (hV : Below W1.heap.size W1 V), Calls Tryz.prog 41 #[.agg #[.slice na G.nodes.length nc, .slice la G.links.length lc], .int .i64 u, .int .i64 (idf G.nodes i : Int), .slice (some ⟨db, 0, none⟩) G.nodes.length dc] V fun e w' => e = .returned (.agg (enV G (qn max) u G.nodes[i]).toArray) ∧ Below V.heap.size V w') := Lib.hid (fun hup V hV => rbEntry_any u i max db dc G na nc la lc V (HIN.out V hV) HZ.out HL.out HU.out hlt hup (fun V2 hV2 j hj => (hV2.cell (p := ⟨db, j, none⟩) (Nat.lt_of_lt_of_le d2 hV.size)).trans ((hV.cell (p := ⟨db, j, none⟩) d2).trans (d3 j hj))))
          have hab0 := (HSS.out wo hbx).2.2
          subst hna
          obtain ⟨x, hx⟩ : ∃ x, x = (idf G.nodes i : Int) := ⟨_, rfl⟩
          obtain ⟨ub, hub⟩ : ∃ ub, ub = G.nodes[i].up := ⟨_, rfl⟩
          rw [← hx] at n0 HPI HEN
          rw [← hub] at n1 HPI HEN
          obtain ⟨a0, a2, a3, a4, a5, hev⟩ := enV_form G (qn max) u G.nodes[i]
          obtain ⟨a1, ha1⟩ : ∃ a1, a1 = kindI G (qn max) u G.nodes[i] := ⟨_, rfl⟩
          have HA1 := Lib.hid ha1
          rw [← ha1] at hev
          have HEV := Lib.hid hev
          rw [hev] at HEN
          clear hx hub hev ha1 ho hbx hnc hbb hi d1 d2 d3 hLL hab0
          have SKIP : Hid (¬ (ub = true ∧ x ≠ u) → Own wo W1.heap.size 43 6 (.slice al LL.length cl) (TT G (qn max) u q ++ tabK G (qn max) u ((q : Int) + 1) (i + 1)).length (enRow (TT G (qn max) u q ++ tabK G (qn max) u ((q : Int) + 1) (i + 1)))) := Lib.hid (fun hs => by
            rw [HGO.out, HPI.out, if_neg (fun h => hs ⟨h.1, h.2.1⟩), List.append_nil, ← HLL.out]; exact HOW.out)
          by_cases hxu : x = u
          · have hxe : (x == u) = true := by simpa using hxu
            have HS := Lib.hid (SKIP.out (fun h => h.2 hxu))
            clear hxu HEN
            go_wp2_with fail
            refine ⟨⟨i + 1, congrArg (Value.int .i64) HK1.out.2.2.2, HK1.out.1, HS.out, HXW.out⟩, ?_⟩
            show G.nodes.length - ((i : Int) + 1).toNat < G.nodes.length - (i : Int).toNat
            rw [HK1.out.2.2.1]
            exact HK1.out.2.1
          · have hxe : (x == u) = false := by simpa using hxu
            have HXU := Lib.hid hxu
            clear hxu
            cases ub with
            | false =>
              have HS := Lib.hid (SKIP.out (fun h => by cases h.1))
              clear HEN
              go_wp2_with fail
              refine ⟨⟨i + 1, congrArg (Value.int .i64) HK1.out.2.2.2, HK1.out.1, HS.out, HXW.out⟩, ?_⟩
              show G.nodes.length - ((i : Int) + 1).toNat < G.nodes.length - (i : Int).toNat
              rw [HK1.out.2.2.1]
              exact HK1.out.2.1
            | true =>
              have HPK : Hid (pickI G (qn max) u ((q : Int) + 1) G.nodes[i] = if kindI G (qn max) u G.nodes[i] = (q : Int) + 1 then [enI G (qn max) u G.nodes[i]] else []) := Lib.hid (by
                rw [HPI.out]
                by_cases h : kindI G (qn max) u G.nodes[i] = (q : Int) + 1
                · rw [if_pos h, if_pos ⟨rfl, HXU.out, h⟩]
                · rw [if_neg h, if_neg (fun h2 => h h2.2.2)])
              replace HEN := Lib.hid (HEN.out rfl)
              clear SKIP
              go_upto_region 10 with (fail)
              clear g0 g1 n0 n1
              refine wp_region_held_drew (S := fun V => TbS V gb (some ⟨b, o, none⟩) la nc G.nodes.length lc G.links.length ab i db dc) (by kernel_rfl) (HSS.out _ (Below.drew HXW.out)) (fun hH => ?_)
              have hs0 := HSS.out _ (Below.drew HXW.out)
              have C0 : Hid (Below W1.heap.size W1 wo.drew) := Lib.hid (Below.drew HXW.out)
              have D0 : Hid (Below wo.heap.size wo wo.drew) := Lib.hid (Below.drew (Below.refl _ _))
              generalize wo.drew = V0 at *
              refine tk 0 (by assumption) rfl (by kernel_rfl) (fun _ _ _ h => h) (fun V hV => by obtain ⟨hx0, hx1, hx2⟩ := hV; go_simp; try with_reducible rfl) ?_
              try simp only [Act.put, sqA, sqB, sqC, sqD, sqE, sqF]
              refine tk 1 (by assumption) rfl (by kernel_rfl) (fun _ _ _ h => h) (fun V hV => by go_simp; try with_reducible rfl) ?_
              try simp only [Act.put, sqA, sqB, sqC, sqD, sqE, sqF]
              refine tk 2 (by assumption) rfl (by kernel_rfl) (fun _ _ _ h => h) (fun V hV => by go_simp; try with_reducible rfl) ?_
              try simp only [Act.put, sqA, sqB, sqC, sqD, sqE, sqF]
              refine tk 3 (by assumption) rfl (by kernel_rfl) (fun _ _ _ h => h) (fun V hV => by go_simp; try with_reducible rfl) ?_
              try simp only [Act.put, sqA, sqB, sqC, sqD, sqE, sqF]
              refine tk 4 (by assumption) rfl (by kernel_rfl) (fun _ _ _ h => h) (fun V hV => by go_simp; try with_reducible rfl) ?_
              try simp only [Act.put, sqA, sqB, sqC, sqD, sqE, sqF]
              refine tk 5 (by assumption) rfl (by kernel_rfl) (fun _ _ _ h => h) (fun V hV => by go_simp; try with_reducible rfl) ?_
              try simp only [Act.put, sqA, sqB, sqC, sqD, sqE, sqF]
              refine tk 6 (by assumption) rfl (by kernel_rfl) (fun _ _ _ h => h) (fun V hV => by obtain ⟨hx0, hx1, hx2⟩ := hV; go_simp; try with_reducible rfl) ?_
              try simp only [Act.put, sqA, sqB, sqC, sqD, sqE, sqF]
              refine wpAnyH_ready (rs := [7, 8]) (by kernel_rfl) (by simp) ?_
              refine AllReadyH.cons (o := _) rfl (fun K hK => ?_) (AllReadyH.cons (o := _) rfl (fun K hK => ?_) AllReadyH.nil)
              · go_simp
                refine (HEN.out V0 C0.out).mono ?_
                rintro e V1 ⟨rfl, hb⟩
                have C1 := Lib.hid (gNx C0.out hb)
                have D1 := Lib.hid (gNx D0.out hb)
                clear hb
                go_wp2_with fail
                refine hK.out _ _ (HSS.out _ C1.out) (fun hH => ?_)
                clear hK K
                try simp only [Act.put, sqA, sqB, sqC, sqD, sqE, sqF]
                refine wpAnyH_ready (rs := [8]) (by kernel_rfl) (by simp) ?_
                refine AllReadyH.cons (o := _) rfl (fun K hK => ?_) AllReadyH.nil
                go_simp
                refine hK.out _ _ (HSS.out _ (gNx C1.out (gAl _ _))) (fun hH => ?_)
                clear hK K
                have E : Hid (EnL (V1.alloc (.cells #[.int .i64 0, .int .i64 0, .float .f64 0, .int .i64 0, .float .f64 0, .int .i64 0] 43)) V1.heap.size [.int .i64 0, .int .i64 0, .float .f64 0, .int .i64 0, .float .f64 0, .int .i64 0]) := Lib.hid (heap_alloc_new V1 _)
                have C2 := Lib.hid (gNx C1.out (gAl V1 (.cells #[.int .i64 0, .int .i64 0, .float .f64 0, .int .i64 0, .float .f64 0, .int .i64 0] 43)))
                have D2 := Lib.hid (gNx D1.out (gAl V1 (.cells #[.int .i64 0, .int .i64 0, .float .f64 0, .int .i64 0, .float .f64 0, .int .i64 0] 43)))
                have LN : Hid (W1.heap.size ≤ V1.heap.size ∧ wo.heap.size ≤ V1.heap.size ∧ V1.heap.size < (V1.alloc (.cells #[.int .i64 0, .int .i64 0, .float .f64 0, .int .i64 0, .float .f64 0, .int .i64 0] 43)).heap.size) := Lib.hid ⟨C1.out.size, D1.out.size, by simp⟩
                obtain ⟨nx, hnx⟩ : ∃ n, n = V1.heap.size := ⟨_, rfl⟩
                obtain ⟨V2, hV⟩ : ∃ V, V = V1.alloc (.cells #[.int .i64 0, .int .i64 0, .float .f64 0, .int .i64 0, .float .f64 0, .int .i64 0] 43) := ⟨_, rfl⟩
                rw [← hV, ← hnx]
                rw [← hV, ← hnx] at E LN
                rw [← hV] at C2 D2
                clear hV hnx
                try simp only [Act.put, sqA, sqB, sqC, sqD, sqE, sqF]
                refine wpAnyH_ready (rs := [9]) (by kernel_rfl) (by simp) ?_
                refine AllReadyH.cons (o := _) rfl (fun K hK => ?_) AllReadyH.nil
                rw [if_pos (by rfl)]
                refine wp_store_mid _ _ _ rfl nx 0 #[.int .i64 a0, .int .i64 a1, .float .f64 a2, .int .i64 a3, .float .f64 a4, .int .i64 a5] rfl rfl (E.out.there rfl) (by kernel_rfl) (all_oneCell_toArray (cs := [.int .i64 a0, .int .i64 a1, .float .f64 a2, .int .i64 a3, .float .f64 a4, .int .i64 a5]) (by intro v hv; simp only [List.mem_cons, List.not_mem_nil, or_false] at hv; rcases hv with rfl | rfl | rfl | rfl | rfl | rfl <;> rfl)) ?_
                refine hK.out _ _ (HSS.out _ (below_set nx LN.out.1 _ _ _ C2.out)) (fun hH => ?_)
                clear hK K
                replace E := Lib.hid (E.out.set [.int .i64 a0, .int .i64 a1, .float .f64 a2, .int .i64 a3, .float .f64 a4, .int .i64 a5] rfl)
                have C3 := Lib.hid (below_set nx LN.out.1 [.int .i64 a0, .int .i64 a1, .float .f64 a2, .int .i64 a3, .float .f64 a4, .int .i64 a5] 0 V2 C2.out)
                have D3 := Lib.hid (below_set nx LN.out.2.1 [.int .i64 a0, .int .i64 a1, .float .f64 a2, .int .i64 a3, .float .f64 a4, .int .i64 a5] 0 V2 D2.out)
                obtain ⟨V3, hV⟩ : ∃ V, V = V2.setCells nx 0 [.int .i64 a0, .int .i64 a1, .float .f64 a2, .int .i64 a3, .float .f64 a4, .int .i64 a5] := ⟨_, rfl⟩
                have hV2 : V2.setCells nx 0 (#[.int .i64 a0, .int .i64 a1, .float .f64 a2, .int .i64 a3, .float .f64 a4, .int .i64 a5] : Array Value).toList = V3 := hV.symm
                rw [hV2]
                rw [← hV] at E C3 D3
                clear hV hV2
                try simp only [Act.put, sqA, sqB, sqC, sqD, sqE, sqF]
                refine wpAnyH_done (by kernel_rfl) ?_ _
                clear hs0 hH
                obtain ⟨z0, z1, z2, z3, z4, z5⟩ := E.out.cells
                have HOD := Lib.hid (HOW.out.below D3.out)
                by_cases hk : a1 = (q : Int) + 1
                · have hkb : ((a1 : Int) == (q : Int) + 1) = true := by simpa using hk
                  have HNX : Hid (tabK G (qn max) u ((q : Int) + 1) (i + 1) = tabK G (qn max) u ((q : Int) + 1) i ++ [enI G (qn max) u G.nodes[i]] ∧ enC (enI G (qn max) u G.nodes[i]) = [.int .i64 a0, .int .i64 a1, .float .f64 a2, .int .i64 a3, .float .f64 a4, .int .i64 a5]) := Lib.hid ⟨by rw [HGO.out, HPK.out, if_pos (by rw [← hk]; exact HA1.out.symm)], by rw [← HEV.out]; unfold enV; rw [if_neg (by rw [HA1.out.symm, hk]; omega)]⟩
                  obtain ⟨E1, hE1⟩ : ∃ E1, E1 = enI G (qn max) u G.nodes[i] := ⟨_, rfl⟩
                  rw [← hE1] at HNX
                  clear hk hE1
                  obtain ⟨W8, hW8⟩ : ∃ W8, W8 = V3.alloc (.cells #[.int .i64 a0, .int .i64 a1, .float .f64 a2, .int .i64 a3, .float .f64 a4, .int .i64 a5] 43) := ⟨_, rfl⟩
                  have b8 : Below V3.heap.size V3 W8 := by rw [hW8]; exact gAl _ _
                  have r8 : W8.heap[V3.heap.size]? = some (.cells (enC E1).toArray 43 (0, 0)) := by rw [hW8, HNX.out.2]; exact heap_alloc_new V3 _
                  have ho8 := HOD.out.below b8
                  have hbase : W1.heap.size ≤ W8.heap.size := Nat.le_trans C3.out.size b8.size
                  obtain ⟨v2, Wn, hrun, hrow, hkq⟩ := own_app (P := Tryz.prog) (vb := V3.heap.size) (vs := enC E1) Tryz.underlying27 enInfo rfl ho8 hbase r8 rfl (enC_one E1) (by have := HLN.out; omega) (by have := HLN.out; omega)
                  obtain ⟨va2, vc2, rfl⟩ := hrow.slice
                  have HRW : Hid (Own Wn W1.heap.size 43 6 (.slice va2 (LL.length + 1) vc2) (TT G (qn max) u q ++ tabK G (qn max) u ((q : Int) + 1) (i + 1)).length (enRow (TT G (qn max) u q ++ tabK G (qn max) u ((q : Int) + 1) (i + 1)))) := Lib.hid (by
                    rw [HNX.out.1, ← List.append_assoc, ← HLL.out, List.length_append, enRow_app, show enRow [E1] = enC E1 by simp [enRow]]
                    exact hrow)
                  have HBN : Hid (Below W1.heap.size W1 Wn) := Lib.hid ((gNx C3.out b8).trans (Kq.below2 hkq ho8 hbase))
                  rw [hW8] at hrun
                  have HR := Lib.hid hrun
                  clear hrun hrow hkq ho8 hbase b8 r8 hW8
                  go_wp2_with (at_builtin; refine Lib.wpList_append_run _ rfl _ _ _ _ rfl _ _ rfl rfl _ _ (HR.out _) ?_)
                  refine ⟨⟨i + 1, congrArg (Value.int .i64) HK1.out.2.2.2, HK1.out.1, HRW.out, HBN.out⟩, ?_⟩
                  show G.nodes.length - ((i : Int) + 1).toNat < G.nodes.length - (i : Int).toNat
                  rw [HK1.out.2.2.1]
                  exact HK1.out.2.1
                · have hkb : ((a1 : Int) == (q : Int) + 1) = false := by simpa using hk
                  have HRW : Hid (Own V3 W1.heap.size 43 6 (.slice al LL.length cl) (TT G (qn max) u q ++ tabK G (qn max) u ((q : Int) + 1) (i + 1)).length (enRow (TT G (qn max) u q ++ tabK G (qn max) u ((q : Int) + 1) (i + 1)))) := Lib.hid (by
                    rw [HGO.out, HPK.out, if_neg (fun h => hk (HA1.out.trans h)), List.append_nil, ← HLL.out]; exact HOD.out)
                  clear hk
                  go_wp2_with fail
                  refine ⟨⟨i + 1, congrArg (Value.int .i64) HK1.out.2.2.2, HK1.out.1, HRW.out, C3.out⟩, ?_⟩
                  show G.nodes.length - ((i : Int) + 1).toNat < G.nodes.length - (i : Int).toNat
                  rw [HK1.out.2.2.1]
                  exact HK1.out.2.1
              · go_simp
                refine hK.out _ _ (HSS.out _ (gNx C0.out (gAl _ _))) (fun hH => ?_)
                clear hK K
                have E : Hid (EnL (V0.alloc (.cells #[.int .i64 0, .int .i64 0, .float .f64 0, .int .i64 0, .float .f64 0, .int .i64 0] 43)) V0.heap.size [.int .i64 0, .int .i64 0, .float .f64 0, .int .i64 0, .float .f64 0, .int .i64 0]) := Lib.hid (heap_alloc_new V0 _)
                have C1 := Lib.hid (gNx C0.out (gAl V0 (.cells #[.int .i64 0, .int .i64 0, .float .f64 0, .int .i64 0, .float .f64 0, .int .i64 0] 43)))
                have D1 := Lib.hid (gNx D0.out (gAl V0 (.cells #[.int .i64 0, .int .i64 0, .float .f64 0, .int .i64 0, .float .f64 0, .int .i64 0] 43)))
                have LN : Hid (W1.heap.size ≤ V0.heap.size ∧ wo.heap.size ≤ V0.heap.size ∧ V0.heap.size < (V0.alloc (.cells #[.int .i64 0, .int .i64 0, .float .f64 0, .int .i64 0, .float .f64 0, .int .i64 0] 43)).heap.size) := Lib.hid ⟨C0.out.size, D0.out.size, by simp⟩
                obtain ⟨nx, hnx⟩ : ∃ n, n = V0.heap.size := ⟨_, rfl⟩
                obtain ⟨V1, hV⟩ : ∃ V, V = V0.alloc (.cells #[.int .i64 0, .int .i64 0, .float .f64 0, .int .i64 0, .float .f64 0, .int .i64 0] 43) := ⟨_, rfl⟩
                rw [← hV, ← hnx]
                rw [← hV, ← hnx] at E LN
                rw [← hV] at C1 D1
                clear hV hnx
                try simp only [Act.put, sqA, sqB, sqC, sqD, sqE, sqF]
                refine wpAnyH_ready (rs := [7]) (by kernel_rfl) (by simp) ?_
                refine AllReadyH.cons (o := _) rfl (fun K hK => ?_) AllReadyH.nil
                go_simp
                refine (HEN.out V1 C1.out).mono ?_
                rintro e V2 ⟨rfl, hb⟩
                have C2 := Lib.hid (gNx C1.out hb)
                have D2 := Lib.hid (gNx D1.out hb)
                replace E := Lib.hid (E.out.kept (hb.block nx LN.out.2.2))
                clear hb
                go_wp2_with fail
                refine hK.out _ _ (HSS.out _ C2.out) (fun hH => ?_)
                clear hK K
                try simp only [Act.put, sqA, sqB, sqC, sqD, sqE, sqF]
                refine wpAnyH_ready (rs := [9]) (by kernel_rfl) (by simp) ?_
                refine AllReadyH.cons (o := _) rfl (fun K hK => ?_) AllReadyH.nil
                rw [if_pos (by rfl)]
                refine wp_store_mid _ _ _ rfl nx 0 #[.int .i64 a0, .int .i64 a1, .float .f64 a2, .int .i64 a3, .float .f64 a4, .int .i64 a5] rfl rfl (E.out.there rfl) (by kernel_rfl) (all_oneCell_toArray (cs := [.int .i64 a0, .int .i64 a1, .float .f64 a2, .int .i64 a3, .float .f64 a4, .int .i64 a5]) (by intro v hv; simp only [List.mem_cons, List.not_mem_nil, or_false] at hv; rcases hv with rfl | rfl | rfl | rfl | rfl | rfl <;> rfl)) ?_
                refine hK.out _ _ (HSS.out _ (below_set nx LN.out.1 _ _ _ C2.out)) (fun hH => ?_)
                clear hK K
                replace E := Lib.hid (E.out.set [.int .i64 a0, .int .i64 a1, .float .f64 a2, .int .i64 a3, .float .f64 a4, .int .i64 a5] rfl)
                have C3 := Lib.hid (below_set nx LN.out.1 [.int .i64 a0, .int .i64 a1, .float .f64 a2, .int .i64 a3, .float .f64 a4, .int .i64 a5] 0 V2 C2.out)
                have D3 := Lib.hid (below_set nx LN.out.2.1 [.int .i64 a0, .int .i64 a1, .float .f64 a2, .int .i64 a3, .float .f64 a4, .int .i64 a5] 0 V2 D2.out)
                obtain ⟨V3, hV⟩ : ∃ V, V = V2.setCells nx 0 [.int .i64 a0, .int .i64 a1, .float .f64 a2, .int .i64 a3, .float .f64 a4, .int .i64 a5] := ⟨_, rfl⟩
                have hV2 : V2.setCells nx 0 (#[.int .i64 a0, .int .i64 a1, .float .f64 a2, .int .i64 a3, .float .f64 a4, .int .i64 a5] : Array Value).toList = V3 := hV.symm
                rw [hV2]
                rw [← hV] at E C3 D3
                clear hV hV2
                try simp only [Act.put, sqA, sqB, sqC, sqD, sqE, sqF]
                refine wpAnyH_done (by kernel_rfl) ?_ _
                clear hs0 hH
                obtain ⟨z0, z1, z2, z3, z4, z5⟩ := E.out.cells
                have HOD := Lib.hid (HOW.out.below D3.out)
                by_cases hk : a1 = (q : Int) + 1
                · have hkb : ((a1 : Int) == (q : Int) + 1) = true := by simpa using hk
                  have HNX : Hid (tabK G (qn max) u ((q : Int) + 1) (i + 1) = tabK G (qn max) u ((q : Int) + 1) i ++ [enI G (qn max) u G.nodes[i]] ∧ enC (enI G (qn max) u G.nodes[i]) = [.int .i64 a0, .int .i64 a1, .float .f64 a2, .int .i64 a3, .float .f64 a4, .int .i64 a5]) := Lib.hid ⟨by rw [HGO.out, HPK.out, if_pos (by rw [← hk]; exact HA1.out.symm)], by rw [← HEV.out]; unfold enV; rw [if_neg (by rw [HA1.out.symm, hk]; omega)]⟩
                  obtain ⟨E1, hE1⟩ : ∃ E1, E1 = enI G (qn max) u G.nodes[i] := ⟨_, rfl⟩
                  rw [← hE1] at HNX
                  clear hk hE1
                  obtain ⟨W8, hW8⟩ : ∃ W8, W8 = V3.alloc (.cells #[.int .i64 a0, .int .i64 a1, .float .f64 a2, .int .i64 a3, .float .f64 a4, .int .i64 a5] 43) := ⟨_, rfl⟩
                  have b8 : Below V3.heap.size V3 W8 := by rw [hW8]; exact gAl _ _
                  have r8 : W8.heap[V3.heap.size]? = some (.cells (enC E1).toArray 43 (0, 0)) := by rw [hW8, HNX.out.2]; exact heap_alloc_new V3 _
                  have ho8 := HOD.out.below b8
                  have hbase : W1.heap.size ≤ W8.heap.size := Nat.le_trans C3.out.size b8.size
                  obtain ⟨v2, Wn, hrun, hrow, hkq⟩ := own_app (P := Tryz.prog) (vb := V3.heap.size) (vs := enC E1) Tryz.underlying27 enInfo rfl ho8 hbase r8 rfl (enC_one E1) (by have := HLN.out; omega) (by have := HLN.out; omega)
                  obtain ⟨va2, vc2, rfl⟩ := hrow.slice
                  have HRW : Hid (Own Wn W1.heap.size 43 6 (.slice va2 (LL.length + 1) vc2) (TT G (qn max) u q ++ tabK G (qn max) u ((q : Int) + 1) (i + 1)).length (enRow (TT G (qn max) u q ++ tabK G (qn max) u ((q : Int) + 1) (i + 1)))) := Lib.hid (by
                    rw [HNX.out.1, ← List.append_assoc, ← HLL.out, List.length_append, enRow_app, show enRow [E1] = enC E1 by simp [enRow]]
                    exact hrow)
                  have HBN : Hid (Below W1.heap.size W1 Wn) := Lib.hid ((gNx C3.out b8).trans (Kq.below2 hkq ho8 hbase))
                  rw [hW8] at hrun
                  have HR := Lib.hid hrun
                  clear hrun hrow hkq ho8 hbase b8 r8 hW8
                  go_wp2_with (at_builtin; refine Lib.wpList_append_run _ rfl _ _ _ _ rfl _ _ rfl rfl _ _ (HR.out _) ?_)
                  refine ⟨⟨i + 1, congrArg (Value.int .i64) HK1.out.2.2.2, HK1.out.1, HRW.out, HBN.out⟩, ?_⟩
                  show G.nodes.length - ((i : Int) + 1).toNat < G.nodes.length - (i : Int).toNat
                  rw [HK1.out.2.2.1]
                  exact HK1.out.2.1
                · have hkb : ((a1 : Int) == (q : Int) + 1) = false := by simpa using hk
                  have HRW : Hid (Own V3 W1.heap.size 43 6 (.slice al LL.length cl) (TT G (qn max) u q ++ tabK G (qn max) u ((q : Int) + 1) (i + 1)).length (enRow (TT G (qn max) u q ++ tabK G (qn max) u ((q : Int) + 1) (i + 1)))) := Lib.hid (by
                    rw [HGO.out, HPK.out, if_neg (fun h => hk (HA1.out.trans h)), List.append_nil, ← HLL.out]; exact HOD.out)
                  clear hk
                  go_wp2_with fail
                  refine ⟨⟨i + 1, congrArg (Value.int .i64) HK1.out.2.2.2, HK1.out.1, HRW.out, C3.out⟩, ?_⟩
                  show G.nodes.length - ((i : Int) + 1).toNat < G.nodes.length - (i : Int).toNat
                  rw [HK1.out.2.2.1]
                  exact HK1.out.2.1
        · have hni : ¬ (i : Int) < (G.nodes.length : Int) := by omega
          have hie : i = G.nodes.length := by omega
          subst hie
          have HO : Hid (Own wo W1.heap.size 43 6 (.slice al LL.length cl) (TT G (qn max) u (q + 1)).length (enRow (TT G (qn max) u (q + 1)))) := Lib.hid (by rw [TT_go, ← HLL.out]; exact HOW.out)
          clear hlt ho hbx hi hLL
          have hqw := HQW.out
          go_wp2_with fail
          refine ⟨⟨_, _, ⟨q + 1, congrArg (Value.int .i64) HQ.out.2.2.2.2, HQ.out.1, HO.out, HXW.out⟩, HWS.out.2.symm, rfl, rfl⟩, ?_⟩
          show 4 - ((q : Int) + 1 + 1).toNat < 4 - ((q : Int) + 1).toNat
          rw [HQ.out.2.2.2.1, HQ.out.2.2.1]
          exact HQ.out.2.1
    · have hq3 : ¬ (q : Int) + 1 ≤ 3 := by omega
      have hqe : q = 3 := by omega
      subst hqe
      have HO := Lib.hid (HOI.out.mono HB1.out.size)
      rw [TT_all] at HO
      clear hlq ho hbx hq
      go_wp2_with fail
      go_ret
      exact ⟨_, rfl, HO.out, gNx HB1.out HXI.out⟩
end Go.Proofs.YtjlfpjjfldbknaaGreat
end

section
namespace Go.Proofs.YtjlfpjjfldbknaaGreat
open Go.RowKit Go.Lib Go.Fq Go.Pq Go.Iq Go.Nq Go.Ow Go.Bq
set_option linter.unusedVariables false
set_option linter.unusedSimpArgs false
set_option maxRecDepth 100000

/-- Why there is no table; what it holds. -/
def tabE (G : Gr) (max : Nat) (id : Int) : Int := if ballE G max ≠ 0 then ballE G max else if upB G.nodes id = true then 0 else 4
noncomputable def tabL (G : Gr) (max : Nat) (id : Int) : List En := if ballE G max = 0 ∧ upB G.nodes id = true then tabI G (qn max) id else []
theorem tabL_len (G : Gr) (max : Nat) (id : Int) : (tabL G max id).length ≤ 768 := by
  unfold tabL
  split
  · rename_i h
    have h1 := tab_len G (qn max) id
    have h2 := (check_zero.1 (ballE_zero.1 h.1).1).1
    omega
  · simp
def TabIs (w : World) (G : Gr) (max : Nat) (id : Int) (e : Ending) (w' : World) : Prop := Below w.heap.size w w' ∧ ∃ v, e = .returned (.tuple #[v, .int .i64 (tabE G max id)]) ∧ Own w' w.heap.size 43 6 v (tabL G max id).length (enRow (tabL G max id))
theorem TabEnds.is {w w' : World} {G : Gr} {max : Nat} {id : Int} {e : Ending} (hw : Wts G) (h : TabEnds w G max id e w') : TabIs w G max id e w' := by
  refine ⟨h.1, ?_⟩
  rcases h.2 with ⟨hne, rfl⟩ | ⟨hE, hup, rfl⟩ | ⟨hE, hup, v, rfl, ho⟩
  · refine ⟨_, by unfold tabE; rw [if_pos hne], ?_⟩
    unfold tabL; rw [if_neg (fun h => hne h.1)]; exact Or.inl ⟨rfl, rfl, none, rfl⟩
  · refine ⟨_, by unfold tabE; rw [if_neg (by simpa using hE), hup]; rfl, ?_⟩
    unfold tabL; rw [if_neg (fun h => by rw [hup] at h; cases h.2)]; exact Or.inl ⟨rfl, rfl, none, rfl⟩
  · refine ⟨v, by unfold tabE; rw [if_neg (by simpa using hE), if_pos hup], ?_⟩
    unfold tabL; rw [if_pos ⟨hE, hup⟩, tab_live (ballE_zero.1 hE).1 hw (qn max) hup]; exact ho
set_option maxHeartbeats 16000000 in
theorem rbTab_any (max : Nat) (id : Int) (G : Gr) (na : Option Addr) (nc : Nat) (la : Option Addr) (lc : Nat) (w : World) (hin : GrIn w G na la) (hm : max < 2 ^ 64) :
    Calls Tryz.prog 9 #[.agg #[.slice na G.nodes.length nc, .slice la G.links.length lc], .float .f64 max, .int .i64 id] w fun e w' => TabIs w G max id e w' := by
  obtain ⟨W1, hW1⟩ : ∃ W1, W1 = w.alloc (.cells #[.slice na G.nodes.length nc, .slice la G.links.length lc] 25) := ⟨_, rfl⟩
  have b1 : Below w.heap.size w W1 := by rw [hW1]; exact gAl _ _
  have s1 : w.heap.size < W1.heap.size := by rw [hW1]; simp
  have r1 : W1.heap[w.heap.size]? = some (.cells #[.slice na G.nodes.length nc, .slice la G.links.length lc] 25 (0, 0)) := by rw [hW1]; exact heap_alloc_new w _
  obtain ⟨gb, hgb⟩ : ∃ gb, gb = w.heap.size := ⟨_, rfl⟩
  rw [← hgb] at r1 s1
  have HKG : Hid (∀ V, Below W1.heap.size W1 V → V.cell? ⟨gb, 0, none⟩ = some (.slice na G.nodes.length nc) ∧ V.cell? ⟨gb, 1, none⟩ = some (.slice la G.links.length lc)) := Lib.hid (fun V hV => by
    have := two_cells ((hV.block _ s1).trans r1)
    exact ⟨this.1, this.2.1⟩)
  have HB1 := Lib.hid b1
  have HIN : Hid (∀ V, Below W1.heap.size W1 V → GrIn V G na la) := Lib.hid (fun V hV => (hin.below b1).below hV)
  have HWS : Hid (W1 = w.alloc (.cells #[.slice na G.nodes.length nc, .slice la G.links.length lc] 25) ∧ w.heap.size = gb) := Lib.hid ⟨hW1, hgb.symm⟩
  have HAK := Lib.hid (rbAsked_any G na nc la lc max W1 (hin.below b1) hm)
  have HMX := Lib.hid hm
  obtain ⟨g0, g1⟩ := HKG.out W1 (Below.refl _ _)
  clear hin b1 s1 r1 hm hW1 hgb
  by_cases hE : ballE G max = 0
  case neg =>
    have HTE : Hid (tabE G max id = ballE G max ∧ tabL G max id = []) := Lib.hid ⟨by unfold tabE; rw [if_pos hE], by unfold tabL; rw [if_neg (fun h => hE h.1)]⟩
    obtain ⟨E, hE2⟩ : ∃ E, E = ballE G max := ⟨_, rfl⟩
    have hz : (E != 0) = true := by rw [hE2]; simpa using hE
    rw [← hE2] at HAK HTE
    clear hE hE2
    go_enter Tryz.func9, Tryz.ntmps9
    go_upto_region 1 with (fail)
    rw [← HWS.out.1, HWS.out.2]
    go_wp2_with fail
    refine HAK.out.mono ?_
    rintro e w2 ⟨rfl, hb2⟩
    have HB2 := Lib.hid (gNx HB1.out hb2)
    clear hb2 g0 g1
    go_wp2_with fail
    refine bodyPost_ret (v := .tuple #[.slice none 0 0, .int .i64 E]) (by simp [results, Tryz.results9, go_sem]) rfl ?_
    exact ⟨HB2.out, _, by rw [HTE.out.1], by rw [HTE.out.2]; exact Or.inl ⟨rfl, rfl, none, rfl⟩⟩
  case pos =>
    obtain ⟨hz, hl⟩ := ballE_zero.1 hE
    have HE := Lib.hid hE
    have HZ := Lib.hid hz
    have HUU := Lib.hid (fun V (hV : Below W1.heap.size W1 V) => rbUp_any id G na nc la lc V (HIN.out V hV) hz)
    rw [hE] at HAK
    have HQN : Hid (qn max ≤ 4294967296) := Lib.hid (by
      obtain ⟨lim, l1, l2, l3⟩ := limit_q max HMX.out hl
      rw [l3, qn_qw (by omega)]; exact l2)
    obtain ⟨uu, huu⟩ : ∃ uu, uu = upB G.nodes id := ⟨_, rfl⟩
    have HUP : Hid (upB G.nodes id = uu) := Lib.hid huu.symm
    rw [← huu] at HUU
    clear huu hz hl
    cases uu with
    | false =>
      have HTE : Hid (tabE G max id = 4 ∧ tabL G max id = []) := Lib.hid ⟨by unfold tabE; rw [if_neg (by simpa using hE), HUP.out]; rfl, by unfold tabL; rw [if_neg (fun h => by have := HUP.out; rw [h.2] at this; cases this)]⟩
      clear hE
      go_enter Tryz.func9, Tryz.ntmps9
      go_upto_region 1 with (fail)
      rw [← HWS.out.1, HWS.out.2]
      go_wp2_with fail
      refine HAK.out.mono ?_
      rintro e w2 ⟨rfl, hb2⟩
      have HB2 := Lib.hid hb2
      clear g0 g1
      obtain ⟨g0, g1⟩ := HKG.out w2 hb2
      clear hb2
      go_wp2_with fail
      refine (HUU.out w2 HB2.out).mono ?_
      rintro e w3 ⟨rfl, hb3⟩
      have HB3 := Lib.hid (gNx HB1.out (gNx HB2.out hb3))
      clear hb3 g0 g1
      go_wp2_with fail
      refine bodyPost_ret (v := .tuple #[.slice none 0 0, .int .i64 4]) (by simp [results, Tryz.results9, go_sem]) rfl ?_
      exact ⟨HB3.out, _, by rw [HTE.out.1], by rw [HTE.out.2]; exact Or.inl ⟨rfl, rfl, none, rfl⟩⟩
    | true =>
      have HTE : Hid (tabE G max id = 0 ∧ tabL G max id = tabI G (qn max) id) := Lib.hid ⟨by unfold tabE; rw [if_neg (by simpa using hE), if_pos HUP.out], by unfold tabL; rw [if_pos ⟨hE, HUP.out⟩]⟩
      have HDS := Lib.hid (fun V (hV : Below W1.heap.size W1 V) => rbAll_any max G na nc la lc V (HIN.out V hV) HMX.out HE.out)
      have HNP : Hid (0 < G.nodes.length) := Lib.hid (by obtain ⟨i, hi, -⟩ := up_id HZ.out HUP.out; omega)
      have HSS : Hid (∀ V, Below W1.heap.size W1 V → V.cell? ⟨gb, 0, none⟩ = some (.slice na G.nodes.length nc) ∧ V.cell? ⟨gb, 1, none⟩ = some (.slice la G.links.length lc)) := HKG
      clear hE
      go_enter Tryz.func9, Tryz.ntmps9
      go_upto_region 1 with (fail)
      rw [← HWS.out.1, HWS.out.2]
      go_wp2_with fail
      refine HAK.out.mono ?_
      rintro e w2 ⟨rfl, hb2⟩
      have HB2 := Lib.hid hb2
      clear g0 g1
      obtain ⟨g0, g1⟩ := HKG.out w2 hb2
      clear hb2
      go_wp2_with fail
      refine (HUU.out w2 HB2.out).mono ?_
      rintro e w3 ⟨rfl, hb3⟩
      have HB3 := Lib.hid (gNx HB2.out hb3)
      clear hb3 g0 g1
      obtain ⟨g0, g1⟩ := HKG.out w3 HB3.out
      go_upto_region 6 with (fail)
      clear g0 g1
      refine wp_region_held_drew (S := fun V => V.cell? ⟨gb, 0, none⟩ = some (.slice na G.nodes.length nc) ∧ V.cell? ⟨gb, 1, none⟩ = some (.slice la G.links.length lc)) (by kernel_rfl) (HSS.out _ (Below.drew HB3.out)) (fun hH => ?_)
      have hs0 := HSS.out _ (Below.drew HB3.out)
      have C0 : Hid (Below W1.heap.size W1 w3.drew) := Lib.hid (Below.drew HB3.out)
      generalize w3.drew = V0 at *
      refine tk 0 (by assumption) rfl (by kernel_rfl) (fun _ _ _ h => h) (fun V hV => by obtain ⟨hx0, hx1⟩ := hV; go_simp; try with_reducible rfl) ?_
      try simp only [Act.put, sqA, sqB, sqC, sqD, sqE, sqF]
      refine tk 1 (by assumption) rfl (by kernel_rfl) (fun _ _ _ h => h) (fun V hV => by go_simp; try with_reducible rfl) ?_
      try simp only [Act.put, sqA, sqB, sqC, sqD, sqE, sqF]
      refine tk 2 (by assumption) rfl (by kernel_rfl) (fun _ _ _ h => h) (fun V hV => by obtain ⟨hx0, hx1⟩ := hV; go_simp; try with_reducible rfl) ?_
      try simp only [Act.put, sqA, sqB, sqC, sqD, sqE, sqF]
      refine tk 3 (by assumption) rfl (by kernel_rfl) (fun _ _ _ h => h) (fun V hV => by go_simp; try with_reducible rfl) ?_
      try simp only [Act.put, sqA, sqB, sqC, sqD, sqE, sqF]
      refine wpAnyH_ready (rs := [4]) (by kernel_rfl) (by simp) ?_
      refine AllReadyH.cons (o := _) rfl (fun K hK => ?_) AllReadyH.nil
      go_simp
      refine (HDS.out V0 C0.out).mono ?_
      rintro e V1 ⟨v1, rfl, rws, ho1, hr1, hb1⟩
      obtain ⟨ab, ac, rfl, hai⟩ := all_in ho1 hr1 HNP.out
      have C1 : Hid (Below W1.heap.size W1 V1) := Lib.hid (gNx C0.out hb1)
      have HTB := Lib.hid (rbTable_any id max ab ac G na nc la lc V1 (HIN.out V1 C1.out) HZ.out HQN.out HUP.out hai)
      clear hb1 ho1 hr1 hai
      go_wp2_with fail
      refine hK.out _ _ (HSS.out _ C1.out) (fun hH => ?_)
      clear hK K
      try simp only [Act.put, sqA, sqB, sqC, sqD, sqE, sqF]
      refine wpAnyH_ready (rs := [5]) (by kernel_rfl) (by simp) ?_
      refine AllReadyH.cons (o := _) rfl (fun K hK => ?_) AllReadyH.nil
      go_simp
      refine HTB.out.mono ?_
      rintro e V2 ⟨v2, rfl, ho2, hb2⟩
      have HO := Lib.hid (ho2.mono C1.out.size)
      have C2 : Hid (Below W1.heap.size W1 V2) := Lib.hid (gNx C1.out hb2)
      clear ho2 hb2
      go_wp2_with fail
      refine hK.out _ _ (HSS.out _ C2.out) (fun hH => ?_)
      clear hK K
      try simp only [Act.put, sqA, sqB, sqC, sqD, sqE, sqF]
      refine tk 6 (by assumption) rfl (by kernel_rfl) (fun _ _ _ h => h) (fun V hV => by go_simp; try with_reducible rfl) ?_
      try simp only [Act.put, sqA, sqB, sqC, sqD, sqE, sqF]
      refine tk 7 (by assumption) rfl (by kernel_rfl) (fun _ _ _ h => h) (fun V hV => by go_simp; try with_reducible rfl) ?_
      try simp only [Act.put, sqA, sqB, sqC, sqD, sqE, sqF]
      refine wpAnyH_done (by kernel_rfl) ?_ _
      clear hs0 hH
      have HOW := Lib.hid (HO.out.mono HB1.out.size)
      go_wp2_with fail
      refine bodyPost_ret (v := .tuple #[v2, .int .i64 0]) (by simp [results, Tryz.results9, go_sem]) rfl ?_
      exact ⟨gNx HB1.out C2.out, v2, by rw [HTE.out.1], by rw [HTE.out.2]; exact HOW.out⟩
set_option maxHeartbeats 16000000 in
theorem law_btables (G : Gr) (na : Option Addr) (nc : Nat) (la : Option Addr) (lc : Nat) (max : Nat) (id : Int) (w : World) (hin : GrIn w G na la) (hm : max < 2 ^ 64) (_ : (Lit.int .i64 id).wf = true) :
    Calls Tryz.prog 3 #[.agg #[.slice na G.nodes.length nc, .slice la G.links.length lc], .float .f64 max, .int .i64 id] w fun e w' => e = .returned (.bool true) ∧ Below w.heap.size w w' := by
  obtain ⟨W1, hW1⟩ : ∃ W1, W1 = w.alloc (.cells #[.slice na G.nodes.length nc, .slice la G.links.length lc] 25) := ⟨_, rfl⟩
  have b1 : Below w.heap.size w W1 := by rw [hW1]; exact gAl _ _
  have s1 : w.heap.size < W1.heap.size := by rw [hW1]; simp
  have r1 : W1.heap[w.heap.size]? = some (.cells #[.slice na G.nodes.length nc, .slice la G.links.length lc] 25 (0, 0)) := by rw [hW1]; exact heap_alloc_new w _
  obtain ⟨gb, hgb⟩ : ∃ gb, gb = w.heap.size := ⟨_, rfl⟩
  rw [← hgb] at r1 s1
  have HKG : Hid (∀ V, Below W1.heap.size W1 V → V.cell? ⟨gb, 0, none⟩ = some (.slice na G.nodes.length nc) ∧ V.cell? ⟨gb, 1, none⟩ = some (.slice la G.links.length lc)) := Lib.hid (fun V hV => by
    have := two_cells ((hV.block _ s1).trans r1)
    exact ⟨this.1, this.2.1⟩)
  have HB1 := Lib.hid b1
  have HIN : Hid (∀ V, Below W1.heap.size W1 V → GrIn V G na la) := Lib.hid (fun V hV => (hin.below b1).below hV)
  have HMX := Lib.hid hm
  have HAW := Lib.hid bAwake_any
  have HCP := Lib.hid (rCopy_any G na la nc lc W1 (hin.below b1).nodes (hin.below b1).links hin.wts (by have := hin.n1; omega) (by have := hin.l1; omega))
  have HSZ : Hid (G.nodes.length * 16 ≤ 140737488351232 ∧ G.links.length * 32 ≤ 140737488351232) := Lib.hid ⟨hin.n1, hin.l1⟩
  have HWT : Hid (Wts G) := Lib.hid hin.wts
  obtain ⟨g0, g1⟩ := HKG.out W1 (Below.refl _ _)
  have HWS : Hid (W1 = w.alloc (.cells #[.slice na G.nodes.length nc, .slice la G.links.length lc] 25) ∧ w.heap.size = gb) := Lib.hid ⟨hW1, hgb.symm⟩
  clear hin b1 s1 r1 hm hW1 hgb
  go_enter Tryz.func3, Tryz.ntmps3
  go_upto_region 1 with (fail)
  rw [← HWS.out.1, HWS.out.2]
  go_wp2_with fail
  refine HCP.out.mono ?_
  rintro e w2 ⟨vn, vl, rfl, hgv, hb2⟩
  obtain ⟨na2, nc2, rfl, hNI, -⟩ := ownN_in hgv.nodes
  obtain ⟨la2, lc2, rfl, hLI, -⟩ := ownL_in hgv.links
  have HB2 := Lib.hid hb2
  have HC := Lib.hid (pTable_any G na2 nc2 la2 lc2 max id w2 ⟨hNI, hLI, hgv.wts, HSZ.out.1, HSZ.out.2⟩ HMX.out)
  clear hgv hNI hLI hb2 g0 g1
  go_wp2_with fail
  refine HC.out.mono ?_
  rintro e w3 hte
  obtain ⟨hb3, v1, rfl, ho1⟩ := TabEnds.is HWT.out hte
  have HB3 := Lib.hid (gNx HB2.out hb3)
  have HR := Lib.hid (rbTab_any max id G na nc la lc w3 (HIN.out w3 HB3.out) HMX.out)
  obtain ⟨g0, g1⟩ := HKG.out w3 HB3.out
  have HO1 := Lib.hid ho1
  obtain ⟨a1, c1, rfl⟩ := ho1.slice
  clear hb3 hte ho1
  go_wp2_with fail
  refine HR.out.mono ?_
  rintro e w4 ⟨hb4, v2, rfl, ho2⟩
  obtain ⟨a2, c2, rfl⟩ := ho2.slice
  have HS := Lib.hid (sameEnts_own (tabL G max id) _ _ _ _ w4 (HO1.out.below hb4) ho2 (tabL_len G max id))
  have HB4 := Lib.hid (gNx HB3.out hb4)
  clear hb4 g0 g1 ho2 HO1 HR HC
  generalize (tabL G max id).length = nl at *
  generalize tabE G max id = E at *
  have hee : (E == E) = true := by simp
  go_wp2_with fail
  refine HS.out.mono ?_
  rintro e w5 ⟨rfl, hb5⟩
  have HB5 := Lib.hid (gNx HB4.out hb5)
  clear hb5
  go_wp2_with fail
  refine (HAW.out w5).mono ?_
  rintro e w6 ⟨rfl, hb6⟩
  have HB6 := Lib.hid (gNx HB1.out (gNx HB5.out hb6))
  clear hb6
  go_wp2_with fail
  go_ret
  exact ⟨rfl, HB6.out⟩
end Go.Proofs.YtjlfpjjfldbknaaGreat
end
