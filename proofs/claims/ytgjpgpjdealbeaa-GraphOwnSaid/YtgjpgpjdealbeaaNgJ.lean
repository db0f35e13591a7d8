/- Graphs: slices.Insert at links. -/
import Derived.Test.YtgjpgpjdealbeaaNgI
import Derived.Test.YtgjpgpjdealbeaaOwA
import Derived.Deep.RegionLaw
namespace Go.Proofs.Ytgjpgpjdealbeaa
open Go.RowKit Go.Lib Go.Nq Go.Ow
set_option linter.unusedVariables false
set_option linter.unusedSimpArgs false
set_option maxRecDepth 100000

/-- The cells of one, and of a row. -/
def lkC (n : Lk) : List Value := [.int .i64 n.a, .int .i64 n.b, .float .f64 n.w, .bool n.up]
def lkRow (l : List Lk) : List Value := l.flatMap lkC
theorem lkRow_len (l : List Lk) : (lkRow l).length = l.length * 4 := by
  induction l with
  | nil => rfl
  | cons n r ih => simp only [lkRow, List.flatMap_cons, List.length_append, List.length_cons] at *; rw [ih]; simp [lkC]; omega
theorem lkRow_take : ∀ (l : List Lk) (i : Nat), lkRow (l.take i) = (lkRow l).take (i * 4)
  | [], i => by simp [lkRow]
  | n :: r, 0 => by simp [lkRow]
  | n :: r, i + 1 => by
    have ih := lkRow_take r i
    simp only [lkRow, List.take_succ_cons, List.flatMap_cons] at *
    rw [ih, show (i + 1) * 4 = i * 4 + 4 by omega, List.take_append, show (lkC n).length = 4 by simp [lkC], List.take_of_length_le (l := lkC n) (by simp [lkC]), Nat.add_sub_cancel]
theorem lkRow_drop : ∀ (l : List Lk) (i : Nat), lkRow (l.drop i) = (lkRow l).drop (i * 4)
  | [], i => by simp [lkRow]
  | n :: r, 0 => by simp [lkRow]
  | n :: r, i + 1 => by
    have ih := lkRow_drop r i
    simp only [lkRow, List.drop_succ_cons, List.flatMap_cons] at *
    rw [ih, show (i + 1) * 4 = i * 4 + 4 by omega, List.drop_append, show (lkC n).length = 4 by simp [lkC], List.drop_of_length_le (l := lkC n) (by simp [lkC]), Nat.add_sub_cancel, List.nil_append]
theorem lkRow_put (l : List Lk) (i : Nat) (x : Lk) : lkRow (l.take i ++ x :: l.drop i) = (lkRow l).take (i * 4) ++ lkC x ++ (lkRow l).drop (i * 4) := by
  rw [← lkRow_take, ← lkRow_drop]
  simp [lkRow]
theorem lkC_one (n : Lk) : ∀ v ∈ lkC n, v.oneCell' = true := by
  intro v hv
  simp only [lkC, List.mem_cons, List.not_mem_nil, or_false] at hv
  rcases hv with rfl | rfl | rfl | rfl <;> rfl
theorem lkRow_one (l : List Lk) : ∀ v ∈ lkRow l, v.oneCell' = true := by
  intro v hv
  obtain ⟨n, -, h⟩ := List.mem_flatMap.1 hv
  exact lkC_one n v h
theorem lkInfo : (Try.prog.info? 54).map (fun i => (i.zero, i.size, i.bytes)) = some (some (.agg #[.int .i64 0, .int .i64 0, .float .f64 0, .bool false]), 4, 32) := by kernel_rfl
set_option maxHeartbeats 4000000 in
/-- One more, at a place. -/
theorem gInsertLk_any (l : List Lk) (i : Nat) (x : Lk) (v : Value) (base vb : Nat) (w : World) (hown : Own w base 54 4 v l.length (lkRow l)) (hb : base ≤ w.heap.size) (hi : i ≤ l.length) (hl : l.length ≤ 65536)
    (hvb : w.heap[vb]? = some (.cells (lkC x).toArray 54 (0, 0))) (hne : 0 < l.length → ∀ n c, v ≠ .slice (some ⟨vb, 0, none⟩) n c) :
    Calls Try.prog 80 #[v, .int .i64 i, .slice (some ⟨vb, 0, none⟩) 1 1] w fun e w' => ∃ v', e = .returned v' ∧ Own w' base 54 4 v' (l.length + 1) (lkRow (l.take i ++ x :: l.drop i)) ∧ Wr base 54 w w' := by
  have HP := Lib.hid (lkRow_put l i x)
  rw [HP.out]
  clear HP
  obtain ⟨n, hn⟩ : ∃ n, n = l.length := ⟨_, rfl⟩
  obtain ⟨xs, hxs⟩ : ∃ xs, xs = lkRow l := ⟨_, rfl⟩
  obtain ⟨vs, hvs⟩ : ∃ vs, vs = lkC x := ⟨_, rfl⟩
  have hvl : vs.length = 4 := by rw [hvs]; simp [lkC]
  have h1v : ∀ v ∈ vs, v.oneCell' = true := by rw [hvs]; exact lkC_one x
  have h1x : ∀ v ∈ xs, v.oneCell' = true := by rw [hxs]; exact lkRow_one l
  rw [← hn] at hown hi hl hne ⊢
  rw [← hxs] at hown ⊢
  rw [← hvs] at hvb ⊢
  clear hn hxs hvs
  have hxl := hown.len
  obtain ⟨i0, hi0, hz0, hzs, hzb⟩ := info_parts lkInfo
  have u1 := Try.underlying23
  have hvbs : vb < w.heap.size := (Array.getElem?_eq_some_iff.1 hvb).1
  have hvr : ∀ j u, vs[j]? = some u → w.cell? ⟨vb, j, none⟩ = some u := fun j u hj => by rw [cell_of_row w vb j _ _ (0, 0) hvb]; simpa using hj
  have hsrc : ∀ W : World, (∀ j u, vs[j]? = some u → W.cell? ⟨vb, j, none⟩ = some u) → Src Try.prog 4 23 (.slice (some ⟨vb, 0, none⟩) 1 1) 1 vs W := fun W h => Src.ofSlice W u1 ⟨vb, 0, none⟩ 1 1 vs (by rw [hvl]) (fun j u hj => by rw [Addr.add_lit, Nat.zero_add]; exact h j u hj) h1v
  have hin : (i : Int) ≤ (n : Int) := by omega
  have hi0' : (0 : Int) ≤ (i : Int) := by omega
  have hsz : (Try.prog.info? 54).map (·.size) = some 4 := by rw [hi0]; simp [hzs]
  have hw1 : IntKind.i64.wrap ((n : Int) + 1) = (n : Int) + 1 := by rw [IntKind.wrap_i64]; omega
  have hw2 : IntKind.i64.wrap ((i : Int) + 1) = (i : Int) + 1 := by rw [IntKind.wrap_i64]; omega
  have hw3 : IntKind.i64.wrap ((n : Int) + 1 - (i : Int)) = ((n + 1 - i : Nat) : Int) := by rw [IntKind.wrap_i64]; omega
  have GROW : ∀ (a : Option Addr) (c : Nat), v = .slice a n c → n ≤ c → c < n + 1 → (Builtin.firstCells i0.size n (.slice a n c)).run Try.prog w.drew = .ok xs.toArray w.drew →
      Hid (∀ ty, (Builtin.append_ #[23, 23] ty #[.slice a n c, .slice (some ⟨vb, 0, none⟩) 1 1]).run Try.prog w = .ok (.slice (some ⟨w.heap.size, 0, none⟩) (n + 1) (grownCap w (n + 1) c 54))
        (w.drew.alloc (.cells ((xs ++ vs).toArray ++ Builtin.zeroCells (.agg #[.int .i64 0, .int .i64 0, .float .f64 0, .bool false] : Value).cells (grownCap w (n + 1) c 54 - (n + 1))) 54))) := fun a c hv hnc hc hold => Lib.hid (fun ty =>
    run_append_grow_src w 23 23 ty 54 i0 _ u1 hi0 hz0 a n c xs hold _ 1 vs (by rw [hzs]; exact hsrc w hvr) hc (by omega) (by rw [hzb]; exact growslice_fits hc (by omega)))
  have hGle : ∀ c, grownCap w (n + 1) c 54 ≤ maxLen := fun c => grownCap_le_maxLen w (n + 1) c _ (by unfold maxLen; omega)
  have hGge : ∀ c, n + 1 ≤ grownCap w (n + 1) c 54 := fun c => grownCap_ge w _ _ _
  by_cases hend : i = n
  · subst hend
    have htk : xs.take (i * 4) = xs := List.take_of_length_le (by omega)
    have hdr : xs.drop (i * 4) = [] := List.drop_of_length_le (by omega)
    rw [htk, hdr, List.append_nil]
    rcases hown with ⟨rfl, rfl, a, rfl⟩ | ⟨g, cap, cur, rfl, hbg, hg, hnc, hcm, hcs, hx⟩
    · have HR := GROW a 0 rfl (by omega) (by omega) (by
        rw [hzs]
        cases a with
        | none => exact run_firstCells_none w.drew 4 0 0 0
        | some a => exact run_firstCells_some w.drew 4 0 a 0 0 [] (by simp) (fun j v hj => by simp at hj))
      clear GROW hsrc
      go_enter Try.func80, Try.ntmps80
      go_wp2_with (at_builtin; refine Lib.wpList_append_run _ rfl _ _ _ _ rfl _ _ rfl rfl _ _ (HR.out _) ?_)
      go_ret
      exact ⟨_, rfl, own_grown (n := 0) hb hxl hvl rfl (hGge 0) (hGle 0), Wr.alloc _⟩
    · by_cases hroom : i + 1 ≤ cap
      · have hcc : i * 4 + 4 ≤ cur.size := by rw [hcs]; omega
        have hsp : ∀ j, j < vs.length → (w.cell? ⟨g, 0 + i * 4 + j, none⟩).isSome = true := fun j hj => by rw [cell_of_row w g _ cur _ (0, 0) hg, Array.getElem?_eq_getElem (by omega)]; rfl
        have hfz : ∀ j, j < vs.length → w.frozen? ⟨g, 0 + i * 4 + j, none⟩ = false := fun j _ => frozen_of_row w g _ cur _ hg
        have HS := Lib.hid (own_shift (i := i) (w := w) (w1 := w) (w2 := w.setCells g (i * 4) vs) hbg hg hcs hcm hx (Nat.le_refl i) hvl hroom (by rw [hdr]; rfl) rfl)
        rw [htk, hdr, List.append_nil] at HS
        have HA := Lib.hid (hsrc w hvr)
        clear GROW hsrc
        go_enter Try.func80, Try.ntmps80
        go_wp2_with (at_builtin; refine wpList_append_room_src _ rfl _ _ 23 23 rfl 54 i0 u1 hi0 g 0 i cap rfl _ rfl 1 vs (by rw [hzs]; exact HA.out) hroom (by rw [hzs]; exact hsp) (by rw [hzs]; exact hfz) ?_; rw [hzs])
        go_ret
        exact ⟨_, rfl, HS.out.1, HS.out.2⟩
      · have HR := GROW (some ⟨g, 0, none⟩) cap rfl hnc (by omega) (by
          rw [hzs]
          exact run_firstCells_some w.drew 4 i ⟨g, 0, none⟩ i cap xs hxl (fun j v hj => by
            rw [Addr.add_lit, Nat.zero_add]
            show w.cell? _ = _
            rw [cell_of_row w g j cur _ (0, 0) hg, ← Array.getElem?_toList]
            rw [← hx, List.getElem?_take] at hj
            split at hj
            · exact hj
            · cases hj))
        clear GROW hsrc
        go_enter Try.func80, Try.ntmps80
        go_wp2_with (at_builtin; refine Lib.wpList_append_run _ rfl _ _ _ _ rfl _ _ rfl rfl _ _ (HR.out _) ?_)
        go_ret
        exact ⟨_, rfl, own_grown hb hxl hvl rfl (hGge cap) (hGle cap), Wr.alloc _⟩
  · rcases hown with ⟨rfl, rfl, a, rfl⟩ | ⟨g, cap, cur, rfl, hbg, hg, hnc, hcm, hcs, hx⟩
    · omega
    · have hgv : vb ≠ g := fun e => by subst e; exact hne (by omega) n cap rfl
      have hgs : g < w.heap.size := (Array.getElem?_eq_some_iff.1 hg).1
      have hlt : i < n := by omega
      have hz2 : ¬ ((i : Int) = (n : Int)) := by omega
      have hxr : ∀ j u, xs[j]? = some u → w.cell? ⟨g, j, none⟩ = some u := fun j u hj => by
        rw [cell_of_row w g j cur _ (0, 0) hg, ← Array.getElem?_toList]
        rw [← hx, List.getElem?_take] at hj
        split at hj
        · exact hj
        · cases hj
      have hdl : (xs.drop (i * 4)).length = (n - i) * 4 := by rw [List.length_drop, hxl]; omega
      have hdx : ∀ v ∈ xs.drop (i * 4), v.oneCell' = true := fun v hv => h1x v (List.mem_of_mem_drop hv)
      have hdg : ∀ j u, (xs.drop (i * 4))[j]? = some u → xs[i * 4 + j]? = some u := fun j u hj => by rwa [List.getElem?_drop] at hj
      by_cases hroom : n + 1 ≤ cap
      · have hcc : n * 4 + 4 ≤ cur.size := by rw [hcs]; omega
        have hsp : ∀ j, j < n * 4 + 4 → (w.cell? ⟨g, j, none⟩).isSome = true := fun j hj => by rw [cell_of_row w g _ cur _ (0, 0) hg, Array.getElem?_eq_getElem (by omega)]; rfl
        have hfz : ∀ j, w.frozen? ⟨g, j, none⟩ = false := fun j => frozen_of_row w g _ cur _ hg
        have HS := Lib.hid (own_shift (i := i) (w := w.drew) (w1 := w.drew.setCells g ((i + 1) * 4) (xs.drop (i * 4))) (w2 := (w.drew.setCells g ((i + 1) * 4) (xs.drop (i * 4))).setCells g (i * 4) vs) hbg hg hcs hcm hx (by omega) hvl hroom rfl rfl)
        have hov : ∀ lb cb, (callFunc 89 #[.slice (some ⟨vb, 0, none⟩) 1 1, .slice (some ⟨g, (i + 1) * 4, none⟩) lb cb]).run Try.prog w = .ok (.value (.bool false)) w := fun lb cb => by
          rw [run_callFunc_extern Try.func89 (by kernel_rfl) (by kernel_rfl) (by kernel_rfl) (e := Extern.SlicesOverlaps.overlaps #[23, 23] #[4]) (by kernel_rfl),
            Lib.run_overlaps_apart w 23 4 54 u1 4 (fun W => by simp [sizeOf, typeInfo, hi0, hzs]) ⟨vb, 0, none⟩ ⟨g, (i + 1) * 4, none⟩ 1 1 lb cb hgv 54 54 vs.toArray.size cur.size
              (by simp [World.shape?, hvb]) (by simp [World.shape?, hg]) (by omega) (frozen_of_row w vb _ _ _ hvb) (frozen_of_row w vb _ _ _ hvb)]
          rfl
        obtain ⟨W1, hW1⟩ : ∃ W1, W1 = w.drew.setCells g ((i + 1) * 4) (xs.drop (i * 4)) := ⟨_, rfl⟩
        have hcp1 : ∀ ty dc sc, (Builtin.copy_ #[23, 23] ty #[.slice (some ⟨g, (i + 1) * 4, none⟩) (n - i) dc, .slice (some ⟨g, i * 4, none⟩) (n + 1 - i) sc]).run Try.prog w.drew = .ok (goInt (Nat.min (n + 1 - i) (n - i))) W1 := fun ty dc sc => by
          rw [hW1]
          exact run_copy_k w.drew _ _ ty 54 4 g ((i + 1) * 4) (n - i) dc ⟨g, i * 4, none⟩ (n + 1 - i) sc (xs.drop (i * 4)) u1 hsz (by rw [hdl]; simp only [Nat.min_def]; split <;> omega)
            (fun j v hj => by rw [Addr.add_lit]; exact hxr _ v (hdg j v hj))
            (fun j hj => hsp _ (by omega)) (fun j hj => hfz _) hdx
        have hcp2 : ∀ ty dc, (Builtin.copy_ #[23, 23] ty #[.slice (some ⟨g, i * 4, none⟩) (n + 1 - i) dc, .slice (some ⟨vb, 0, none⟩) 1 1]).run Try.prog W1 = .ok (goInt (Nat.min 1 (n + 1 - i))) (W1.setCells g (i * 4) vs) := fun ty dc => by
          rw [hW1]
          exact run_copy_k _ _ _ ty 54 4 g (i * 4) (n + 1 - i) dc ⟨vb, 0, none⟩ 1 1 vs u1 hsz (by rw [hvl]; simp only [Nat.min_def]; split <;> omega)
            (fun j v hj => by rw [Addr.add_lit, Nat.zero_add, World.cell?_setCells_out _ _ _ _ _ (fun h _ => absurd h hgv)]; exact hvr j v hj)
            (fun j hj => World.isSome_setCells _ _ _ _ _ (hsp _ (by omega))) (fun j hj => by rw [World.frozen?_setCells]; exact hfz _) h1v
        rw [← hW1] at HS
        have HC1 := Lib.hid hcp1
        have HC2 := Lib.hid hcp2
        have HOV := Lib.hid hov
        have HW1 := Lib.hid hW1
        clear GROW hsrc hcp1 hcp2 hsp hfz hxr hdg hvr hdx h1x h1v hov hW1
        have hb2 : ¬ (cap = i + 1) := by omega
        have hb4 : ¬ (cap = i) := by omega
        have hb3 : (i : Int) ≤ (n : Int) + 1 := by omega
        have hb5 : (n : Int) + 1 ≤ (cap : Int) := by omega
        have hb6 : ¬ ((cap : Int) < (n : Int) + 1) := by omega
        have htn : ((i : Int) + 1).toNat = i + 1 := by omega
        have htm : ((n : Int) + 1).toNat = n + 1 := by omega
        have hb7 : (0 : Int) ≤ (i : Int) + 1 := by omega
        have hb8 : (i : Int) + 1 ≤ (n : Int) + 1 := by omega
        have hb9 : (0 : Int) ≤ (n : Int) + 1 := by omega
        go_enter Try.func80, Try.ntmps80
        have hov' := HOV.out
        go_wp2_with (simp only [hov'])
        go_region_law (refine step_copy_r rfl _ _ 23 23 rfl (.slice (some ⟨g, (i + 1) * 4, none⟩) (n - i) (cap - (i + 1))) (.slice (some ⟨g, i * 4, none⟩) (n + 1 - i) (cap - i)) (by simp [Act.eval, Act.put]) (by simp [Act.eval, Act.put]) (HC1.out 3 (cap - (i + 1)) (cap - i)) ?_)
        go_wp2_with (refine wpList_copy_r _ rfl _ _ 23 23 rfl _ _ rfl rfl (HC2.out _ _) ?_)
        go_ret
        exact ⟨_, rfl, HS.out.1, HS.out.2.os, HS.out.2.tape, HS.out.2.output, HS.out.2.size, HS.out.2.block⟩
      · have HROW := Lib.hid (hGge cap)
        have hz3 : (cap : Int) < (n : Int) + 1 := by omega
        have hik : i + (n + 1 - i) = n + 1 := by omega
        have hold : (Builtin.firstCells i0.size i (.slice (some ⟨g, 0, none⟩) i cap)).run Try.prog w.drew = .ok (xs.take (i * 4)).toArray w.drew := by
          rw [hzs]
          exact run_firstCells_some w.drew 4 i ⟨g, 0, none⟩ i cap (xs.take (i * 4)) (by rw [List.length_take, hxl]; omega) (fun j v hj => by
            rw [Addr.add_lit, Nat.zero_add]
            rw [List.getElem?_take] at hj
            split at hj
            · exact hxr j v hj
            · cases hj)
        have hrz : ∀ ty, (Builtin.append_ #[23, 3] ty #[.slice (some ⟨g, 0, none⟩) i cap, .int .i64 ((n : Int) + 1 - (i : Int))]).run Try.prog w =
            .ok (.slice (some ⟨w.heap.size, 0, none⟩) (n + 1) (grownCap w (n + 1) cap 54)) (w.drew.alloc (.cells ((xs.take (i * 4)).toArray ++ Builtin.zeroCells (.agg #[.int .i64 0, .int .i64 0, .float .f64 0, .bool false] : Value).cells (n + 1 - i) ++ Builtin.zeroCells (.agg #[.int .i64 0, .int .i64 0, .float .f64 0, .bool false] : Value).cells (grownCap w (n + 1) cap 54 - (n + 1))) 54)) := fun ty => by
          have h := Lib.run_append_grow_zeros w 23 3 ty 54 i0 _ .i64 .i64 u1 Try.underlying3 hi0 hz0 (some ⟨g, 0, none⟩) i cap (xs.take (i * 4)) hold (n + 1 - i) (by omega) (by omega) (by omega) (by omega) (by rw [hzb]; omega) (by rw [hzb, hik]; exact growslice_fits (by omega) (by omega))
          rw [hik] at h
          rw [show (n : Int) + 1 - (i : Int) = ((n + 1 - i : Nat) : Int) by omega]
          exact h
        have hGn := hGge cap
        have hGm := hGle cap
        generalize grownCap w (n + 1) cap 54 = G at *
        have hG63 : G ≤ 9223372036854775807 := by unfold maxLen at hGm; omega
        have HM := fun (w1 w2 w3 : World) => own_made (w := w) (w1 := w1) (w2 := w2) (w3 := w3) (e := 54) (zc := (.agg #[.int .i64 0, .int .i64 0, .float .f64 0, .bool false] : Value).cells) (i := i) hb hxl hvl rfl hGn hGm (by omega)
        obtain ⟨W1, hW1⟩ : ∃ W1, W1 = w.drew.alloc (.cells ((xs.take (i * 4)).toArray ++ Builtin.zeroCells (.agg #[.int .i64 0, .int .i64 0, .float .f64 0, .bool false] : Value).cells (n + 1 - i) ++ Builtin.zeroCells (.agg #[.int .i64 0, .int .i64 0, .float .f64 0, .bool false] : Value).cells (G - (n + 1))) 54) := ⟨_, rfl⟩
        have hNR : W1.heap[w.heap.size]? = some (.cells ((xs.take (i * 4)).toArray ++ Builtin.zeroCells (.agg #[.int .i64 0, .int .i64 0, .float .f64 0, .bool false] : Value).cells (n + 1 - i) ++ Builtin.zeroCells (.agg #[.int .i64 0, .int .i64 0, .float .f64 0, .bool false] : Value).cells (G - (n + 1))) 54 (0, 0)) := by rw [hW1]; exact heap_alloc_new w.drew _
        have hNS : n * 4 + 4 ≤ ((xs.take (i * 4)).toArray ++ Builtin.zeroCells (.agg #[.int .i64 0, .int .i64 0, .float .f64 0, .bool false] : Value).cells (n + 1 - i) ++ Builtin.zeroCells (.agg #[.int .i64 0, .int .i64 0, .float .f64 0, .bool false] : Value).cells (G - (n + 1))).size := by
          rw [Array.size_append, Array.size_append, zero_size, zero_size, List.size_toArray, List.length_take, hxl]
          simp only [Value.cells]
          show _ ≤ _ + (n + 1 - i) * 4 + (G - (n + 1)) * 4
          omega
        have hcell : ∀ j, j < n * 4 + 4 → (W1.cell? ⟨w.heap.size, j, none⟩).isSome = true := fun j hj => by rw [cell_of_row W1 _ _ _ _ (0, 0) hNR, Array.getElem?_eq_getElem (by omega)]; rfl
        have hfro : ∀ j, W1.frozen? ⟨w.heap.size, j, none⟩ = false := fun j => frozen_of_row W1 _ _ _ _ hNR
        have hOld : ∀ b j, b < w.heap.size → W1.cell? ⟨b, j, none⟩ = w.cell? ⟨b, j, none⟩ := fun b j hb => by rw [hW1]; exact World.cell?_alloc_past (w := w.drew) _ b j hb
        have hgN : g ≠ w.heap.size := by omega
        rw [← hW1] at hrz
        have hcp1 : ∀ ty dc, (Builtin.copy_ #[23, 23] ty #[.slice (some ⟨w.heap.size, i * 4, none⟩) (n + 1 - i) dc, .slice (some ⟨vb, 0, none⟩) 1 1]).run Try.prog W1 = .ok (goInt (Nat.min 1 (n + 1 - i))) (W1.setCells w.heap.size (i * 4) vs) := fun ty dc =>
          run_copy_k W1 _ _ ty 54 4 w.heap.size (i * 4) (n + 1 - i) dc ⟨vb, 0, none⟩ 1 1 vs u1 hsz (by rw [hvl]; simp only [Nat.min_def]; split <;> omega)
            (fun j v hj => by rw [Addr.add_lit, Nat.zero_add, hOld _ _ hvbs]; exact hvr j v hj)
            (fun j hj => hcell _ (by omega)) (fun j hj => hfro _) h1v
        obtain ⟨W2, hW2⟩ : ∃ W2, W2 = W1.setCells w.heap.size (i * 4) vs := ⟨_, rfl⟩
        have hcp2 : ∀ ty dc sc, (Builtin.copy_ #[23, 23] ty #[.slice (some ⟨w.heap.size, (i + 1) * 4, none⟩) (n - i) dc, .slice (some ⟨g, i * 4, none⟩) (n - i) sc]).run Try.prog W2.drew = .ok (goInt (Nat.min (n - i) (n - i))) (W2.drew.setCells w.heap.size ((i + 1) * 4) (xs.drop (i * 4))) := fun ty dc sc =>
          run_copy_k W2.drew _ _ ty 54 4 w.heap.size ((i + 1) * 4) (n - i) dc ⟨g, i * 4, none⟩ (n - i) sc (xs.drop (i * 4)) u1 hsz (by rw [hdl]; simp only [Nat.min_self])
            (fun j v hj => by
              rw [Addr.add_lit]
              show W2.cell? _ = _
              rw [hW2, World.cell?_setCells_out _ _ _ _ _ (fun h _ => absurd h hgN), hOld _ _ hgs]
              exact hxr _ v (hdg j v hj))
            (fun j hj => by show (W2.cell? _).isSome = true; rw [hW2]; exact World.isSome_setCells _ _ _ _ _ (hcell _ (by omega)))
            (fun j hj => by show W2.frozen? _ = false; rw [hW2, World.frozen?_setCells]; exact hfro _) hdx
        have HM2 := Lib.hid (HM W1 W2 _ hW1 hW2 rfl)
        rw [← hW2] at hcp1
        have HRZ := Lib.hid hrz
        have HC1 := Lib.hid hcp1
        have HC2 := Lib.hid hcp2
        have hb1 : ¬ (cap = i) := by omega
        have hb2 : ¬ (G = i) := by omega
        have hb3 : ¬ (G = i + 1) := by omega
        have hb4 : (i : Int) ≤ (n : Int) + 1 := by omega
        have hb5 : (0 : Int) ≤ (i : Int) + 1 := by omega
        have hb6 : (i : Int) + 1 ≤ (n : Int) + 1 := by omega
        have hb7 : ((i : Int) + 1).toNat = i + 1 := by omega
        have hw4 : IntKind.i64.wrap ((n : Int) + 1 - (i : Int)) = (n : Int) + 1 - (i : Int) := by rw [IntKind.wrap_i64]; omega
        clear GROW hsrc HM hcell hfro hOld hNR hNS hcp1 hcp2 hrz hold hxr hdg hvr hdx h1x h1v hW1 hW2 hw3 hik
        go_enter Try.func80, Try.ntmps80
        go_wp2_with (first | (at_builtin; refine Lib.wpList_append_run _ rfl _ _ _ _ rfl _ _ rfl rfl _ _ (HRZ.out _) ?_) | (refine wpList_copy_r _ rfl _ _ 23 23 rfl _ _ rfl rfl (HC1.out _ _) ?_))
        go_region_law (refine step_copy_r rfl _ _ 23 23 rfl (.slice (some ⟨w.heap.size, (i + 1) * 4, none⟩) (n - i) (G - (i + 1))) (.slice (some ⟨g, i * 4, none⟩) (n - i) (cap - i)) (by simp [Act.eval, Act.put]) (by simp [Act.eval, Act.put]) (HC2.out 3 (G - (i + 1)) (cap - i)) ?_)

        go_wp2_with fail
        go_ret
        exact ⟨_, rfl, HM2.out.1, HM2.out.2⟩
end Go.Proofs.Ytgjpgpjdealbeaa
