/- Messages: News of fields, the program. -/
import Derived.Test.YtidfgjgbigedeaaGreatDoorMiC
import Derived.Test.YtidfgjgbigedeaaGreatDoorMgI
namespace Go.Proofs.YtidfgjgbigedeaaGreatDoor
open Go.RowKit Go.Lib Go.Wq Go.Mq
set_option linter.unusedVariables false
set_option linter.unusedSimpArgs false
set_option maxRecDepth 100000

theorem infoNw : ∃ (i : TypeInfo) (z : Value), Tryz.prog.info? 42 = some i ∧ i.zero = some z ∧ i.size = 5 ∧ i.bytes = 40 := by
  refine ⟨_, _, rfl, rfl, ?_, ?_⟩ <;> kernel_rfl
/-- How a reader of news ends. -/
def NewsEnds (w : World) (l : List Nw) (e : Ending) (w' : World) : Prop := ∃ (a : Option Addr) (c : Nat), e = .returned (.slice a l.length c) ∧ NewsOwn w' w.heap.size l a c ∧ Below w.heap.size w w'
theorem nws_take {rows : List (List Fld)} {w : Nat → Int} {k : Nat} (hk : k < rows.length) : nwsOf w (rows.take (k + 1)) = nwsOf w (rows.take k) ++ [nwOf w rows[k]] := by
  unfold nwsOf
  rw [List.take_succ_eq_append_getElem hk, List.map_append]
  rfl
theorem nws_len {rows : List (List Fld)} {w : Nat → Int} : (nwsOf w rows).length = rows.length := by simp [nwsOf]
/-- What is written so far, and one more. -/
theorem news_step {V : World} {b0 n k : Nat} {rows : List (List Fld)} {w : Nat → Int} {ys : List Value} (hk : k < rows.length) (hn : rows.length = n) (h : V.ownsRow b0 42 5 (.slice (some ⟨b0, 0, none⟩) n n) n (nwCells (nwsOf w (rows.take k)) ++ ys)) :
    ∃ zs, (V.setCells b0 (k * 5) (nwCell (nwOf w rows[k]))).ownsRow b0 42 5 (.slice (some ⟨b0, 0, none⟩) n n) n (nwCells (nwsOf w (rows.take (k + 1))) ++ zs) := by
  have hl : (nwCells (nwsOf w (rows.take k))).length = k * 5 := by rw [nwCells_len, nws_len, List.length_take]; omega
  have hc : (nwCell (nwOf w rows[k])).length = 5 := rfl
  have h1 := own_mid (nwCell (nwOf w rows[k])) (k * 5) V _ h (by rw [hc]; subst hn; omega)
  rw [List.take_left' hl] at h1
  refine ⟨List.drop (k * 5 + (nwCell (nwOf w rows[k])).length) (nwCells (nwsOf w (rows.take k)) ++ ys), ?_⟩
  rw [nws_take hk, nwCells_append]
  have e : nwCells [nwOf w rows[k]] = nwCell (nwOf w rows[k]) := by simp [nwCells]
  rw [e, List.append_assoc]
  exact h1

set_option maxHeartbeats 4000000 in
theorem mNewsOf_any (rows : List (List Fld)) (a : Option Addr) (c : Nat) (w : World) (hin : Go.Wq.RowsIn w w.heap.size rows a rows.length) (h5 : ∀ r ∈ rows, r.length = 5) (hn : rows.length ≤ 1000000) :
    Calls Tryz.prog 57 #[.slice a rows.length c] w (NewsEnds w (nwsOf wM rows)) := by
  obtain ⟨i0, z0, hi, hz0, hz1, hz2⟩ := infoNw
  have H48 : Hid (i0.bytes * rows.length ≤ 281474976710656) := Lib.hid (by rw [hz2]; omega)
  have H63 : Hid (rows.length ≤ maxLen) := Lib.hid (by have : maxLen = 9223372036854775807 := rfl; omega)
  have HF := Lib.hid hin
  have H5 := Lib.hid h5
  have HN := Lib.hid hn
  clear hin h5 hn
  go_enter Tryz.func57, Tryz.ntmps57
  go_wp2_with (at_make; refine wpList_make_full _ rfl _ _ 23 rfl w.heap.size 42 i0 _ 5 Tryz.underlying23 hi hz0 hz1 .i64 .i64 rows.length rows.length rows.length rfl rfl rfl rfl H48.out H63.out (Nat.le_refl _) ?_; intro w1 hown hg; have HOwn := Lib.hid hown; have HG := Lib.hid hg; clear hown hg)
  have HB1 : Hid (Below w.heap.size w w1) := Lib.hid ⟨HG.out.os, HG.out.tape, HG.out.output, HG.out.size, fun k hk => HG.out.block k hk (by simp)⟩
  have hlt1 : w.heap.size < w1.heap.size := (HOwn.out.lt w.heap.size rfl).2
  clear HG
  generalize hB0 : w.heap.size = b0 at *
  go_loopw [11] (fun v wr => ∃ k : Nat, v = .int .i64 (k : Int) ∧ k ≤ rows.length ∧ Below b0 w wr ∧ b0 < wr.heap.size ∧ ∃ ys, wr.ownsRow b0 42 5 (.slice (some ⟨b0, 0, none⟩) rows.length rows.length) rows.length (nwCells (nwsOf wM (rows.take k)) ++ ys)) (fun v _ => rows.length - (intOf v).toNat)
  case atStart => exact ⟨0, rfl, Nat.zero_le _, HB1.out, hlt1, _, HOwn.out⟩
  case round =>
    obtain ⟨k, rfl, hkn, hbel, hsz, ys, hown⟩ := hrel
    have HB := Lib.hid hbel
    have HO := Lib.hid hown
    by_cases hk : k < rows.length
    · have hki : (k : Int) < (rows.length : Int) := by omega
      have hk0 : (0 : Int) ≤ (k : Int) := by omega
      have hw1 : IntKind.i64.wrap ((k : Int) + 1) = (k : Int) + 1 := by have := HN.out; rw [IntKind.wrap_i64]; omega
      obtain ⟨gb, go, rfl, hgb, sa, sn, sc, hcell, hfl⟩ := (Go.Wq.RowsIn.kept (B := b0) (fun j hj => hbel.block j hj) _ _ _ HF.out).at k hk
      obtain rfl := hfl.len
      have hr5 := H5.out _ (List.getElem_mem hk)
      obtain ⟨rb, ro, rfl, hrb, hf⟩ := flds_c hfl (by rw [hr5]; omega)
      rw [hr5] at hf hcell
      have HST := Lib.hid (fun (V : World) (h : V.ownsRow b0 42 5 (.slice (some ⟨b0, 0, none⟩) rows.length rows.length) rows.length (nwCells (nwsOf wM (rows.take k)) ++ ys)) => news_step (w := wM) hk rfl h)
      have en : nwOf wM rows[k] = ⟨wM (fat rows[k] 0).U, wM (fat rows[k] 1).U, (fat rows[k] 2).F, (fat rows[k] 3).F, wM (fat rows[k] 4).U⟩ := rfl
      rw [en] at HST
      have g0 := (hf 0 (by omega)).range
      have g1 := (hf 1 (by omega)).range
      have g2 := (hf 2 (by omega)).f
      have g3 := (hf 3 (by omega)).f
      have g4 := (hf 4 (by omega)).range
      obtain ⟨fa0, fc0, g0⟩ := g0
      obtain ⟨fa1, fc1, g1⟩ := g1
      obtain ⟨fa4, fc4, g4⟩ := g4
      simp only [Nat.zero_mul, Nat.add_zero, Nat.one_mul, Nat.reduceMul] at g0 g1 g2 g3 g4
      clear hf hfl en hr5
      have HW0 := Lib.hid (fun W => mWhole_any (fat rows[k] 0).U (fat rows[k] 0).I (fat rows[k] 0).F (fat rows[k] 0).B (bOf (fat rows[k] 0).T) fa0 (fat rows[k] 0).L.length fc0 W)
      have HW1 := Lib.hid (fun W => mWhole_any (fat rows[k] 1).U (fat rows[k] 1).I (fat rows[k] 1).F (fat rows[k] 1).B (bOf (fat rows[k] 1).T) fa1 (fat rows[k] 1).L.length fc1 W)
      have HW4 := Lib.hid (fun W => mWhole_any (fat rows[k] 4).U (fat rows[k] 4).I (fat rows[k] 4).F (fat rows[k] 4).B (bOf (fat rows[k] 4).T) fa4 (fat rows[k] 4).L.length fc4 W)
      generalize wM (fat rows[k] 0).U = x0 at *
      generalize (fat rows[k] 0).U = fu0 at *
      generalize (fat rows[k] 0).I = fi0 at *
      generalize (fat rows[k] 0).F = ff0 at *
      generalize (fat rows[k] 0).B = fb0 at *
      generalize bOf (fat rows[k] 0).T = ft0 at *
      generalize (fat rows[k] 0).L.length = fn0 at *
      generalize wM (fat rows[k] 1).U = x1 at *
      generalize (fat rows[k] 1).U = fu1 at *
      generalize (fat rows[k] 1).I = fi1 at *
      generalize (fat rows[k] 1).F = ff1 at *
      generalize (fat rows[k] 1).B = fb1 at *
      generalize bOf (fat rows[k] 1).T = ft1 at *
      generalize (fat rows[k] 1).L.length = fn1 at *
      generalize wM (fat rows[k] 4).U = x4 at *
      generalize (fat rows[k] 4).U = fu4 at *
      generalize (fat rows[k] 4).I = fi4 at *
      generalize (fat rows[k] 4).F = ff4 at *
      generalize (fat rows[k] 4).B = fb4 at *
      generalize bOf (fat rows[k] 4).T = ft4 at *
      generalize (fat rows[k] 4).L.length = fn4 at *
      generalize (fat rows[k] 2).F = y2 at *
      generalize (fat rows[k] 3).F = y3 at *
      have K0 : ∀ V, OrSet wr b0 (k * 5) [.int .i64 x0, .int .i64 x1, .float .f64 y2, .float .f64 y3, .int .i64 x4] V → V.rangeAt rb (ro) (fvals fu0 fi0 ff0 fb0 ft0 fa0 fn0 fc0) := fun V hV => hV.mid (Nat.lt_trans hrb hsz) (Nat.ne_of_lt hrb) g0
      have K1 : ∀ V, OrSet wr b0 (k * 5) [.int .i64 x0, .int .i64 x1, .float .f64 y2, .float .f64 y3, .int .i64 x4] V → V.rangeAt rb (ro + 6) (fvals fu1 fi1 ff1 fb1 ft1 fa1 fn1 fc1) := fun V hV => hV.mid (Nat.lt_trans hrb hsz) (Nat.ne_of_lt hrb) g1
      have K4 : ∀ V, OrSet wr b0 (k * 5) [.int .i64 x0, .int .i64 x1, .float .f64 y2, .float .f64 y3, .int .i64 x4] V → V.rangeAt rb (ro + 24) (fvals fu4 fi4 ff4 fb4 ft4 fa4 fn4 fc4) := fun V hV => hV.mid (Nat.lt_trans hrb hsz) (Nat.ne_of_lt hrb) g4
      have K2 : ∀ V, OrSet wr b0 (k * 5) [.int .i64 x0, .int .i64 x1, .float .f64 y2, .float .f64 y3, .int .i64 x4] V → V.cell? ⟨rb, ro + 14, none⟩ = some (.float .f64 y2) := fun V hV => hV.cell (Nat.lt_trans hrb hsz) (Nat.ne_of_lt hrb) g2
      have K3 : ∀ V, OrSet wr b0 (k * 5) [.int .i64 x0, .int .i64 x1, .float .f64 y2, .float .f64 y3, .int .i64 x4] V → V.cell? ⟨rb, ro + 20, none⟩ = some (.float .f64 y3) := fun V hV => hV.cell (Nat.lt_trans hrb hsz) (Nat.ne_of_lt hrb) g3
      have HSZ := Lib.hid hsz
      clear g0 g1 g2 g3 g4 hbel hown hsz
      go_upto_region 5 with (fail)
      refine wp_region_held_drew (S := OrSet wr b0 (k * 5) [.int .i64 x0, .int .i64 x1, .float .f64 y2, .float .f64 y3, .int .i64 x4]) (by kernel_rfl) orset_drew (fun hH => ?_)
      have B0 : Hid (Below wr.heap.size wr wr.drew) := Lib.hid (Below.drew (Below.refl _ _))
      generalize wr.drew = V0 at *
      refine tk 0 (by assumption) rfl (by kernel_rfl) (fun _ _ _ h => h) (fun V hV => by go_simp; try with_reducible rfl) ?_
      try simp only [Act.put, List.setIfInBounds_toArray, List.set_cons_zero, List.set_cons_succ, List.getElem_toArray, List.getElem_cons_succ, List.getElem_cons_zero]
      refine tk 1 (by assumption) rfl (by kernel_rfl) (fun _ _ _ h => h) (fun V hV => by go_simp; try with_reducible rfl) ?_
      try simp only [Act.put, List.setIfInBounds_toArray, List.set_cons_zero, List.set_cons_succ, List.getElem_toArray, List.getElem_cons_succ, List.getElem_cons_zero]
      refine tk 2 (by assumption) rfl (by kernel_rfl) (fun _ _ _ h => h) (fun V hV => by go_simp; try with_reducible rfl) ?_
      try simp only [Act.put, List.setIfInBounds_toArray, List.set_cons_zero, List.set_cons_succ, List.getElem_toArray, List.getElem_cons_succ, List.getElem_cons_zero]
      refine tk 3 (by assumption) rfl (by kernel_rfl) (fun _ _ _ h => h) (fun V hV => by go_simp; try with_reducible rfl) ?_
      try simp only [Act.put, List.setIfInBounds_toArray, List.set_cons_zero, List.set_cons_succ, List.getElem_toArray, List.getElem_cons_succ, List.getElem_cons_zero]
      refine tk 4 (by assumption) rfl (by kernel_rfl) (fun _ _ _ h => h) (tk_load 57 (.tmp 19) rfl rb (ro) rfl (fvals fu0 fi0 ff0 fb0 ft0 fa0 fn0 fc0) _ K0 Tryz.underlying57 (by rfl) (by kernel_rfl)) ?_
      try simp only [Act.put, List.setIfInBounds_toArray, List.set_cons_zero, List.set_cons_succ, List.getElem_toArray, List.getElem_cons_succ, List.getElem_cons_zero]
      refine tk 6 (by assumption) rfl (by kernel_rfl) (fun _ _ _ h => h) (fun V hV => by go_simp; try with_reducible rfl) ?_
      try simp only [Act.put, List.setIfInBounds_toArray, List.set_cons_zero, List.set_cons_succ, List.getElem_toArray, List.getElem_cons_succ, List.getElem_cons_zero]
      refine tk 7 (by assumption) rfl (by kernel_rfl) (fun _ _ _ h => h) (fun V hV => by go_simp; try with_reducible rfl) ?_
      try simp only [Act.put, List.setIfInBounds_toArray, List.set_cons_zero, List.set_cons_succ, List.getElem_toArray, List.getElem_cons_succ, List.getElem_cons_zero]
      refine tk 8 (by assumption) rfl (by kernel_rfl) (fun _ _ _ h => h) (tk_load 57 (.tmp 23) rfl rb (ro + 6) rfl (fvals fu1 fi1 ff1 fb1 ft1 fa1 fn1 fc1) _ K1 Tryz.underlying57 (by rfl) (by kernel_rfl)) ?_
      try simp only [Act.put, List.setIfInBounds_toArray, List.set_cons_zero, List.set_cons_succ, List.getElem_toArray, List.getElem_cons_succ, List.getElem_cons_zero]
      refine tk 10 (by assumption) rfl (by kernel_rfl) (fun _ _ _ h => h) (fun V hV => by go_simp; try with_reducible rfl) ?_
      try simp only [Act.put, List.setIfInBounds_toArray, List.set_cons_zero, List.set_cons_succ, List.getElem_toArray, List.getElem_cons_succ, List.getElem_cons_zero]
      refine tk 11 (by assumption) rfl (by kernel_rfl) (fun _ _ _ h => h) (fun V hV => by go_simp; try with_reducible rfl) ?_
      try simp only [Act.put, List.setIfInBounds_toArray, List.set_cons_zero, List.set_cons_succ, List.getElem_toArray, List.getElem_cons_succ, List.getElem_cons_zero]
      refine tk 12 (by assumption) rfl (by kernel_rfl) (fun _ _ _ h => h) (fun V hV => by go_simp; try with_reducible rfl) ?_
      try simp only [Act.put, List.setIfInBounds_toArray, List.set_cons_zero, List.set_cons_succ, List.getElem_toArray, List.getElem_cons_succ, List.getElem_cons_zero]
      refine tk 13 (by assumption) rfl (by kernel_rfl) (fun _ _ _ h => h) (fun V hV => by have hc := K2 V hV; go_simp; try with_reducible rfl) ?_
      try simp only [Act.put, List.setIfInBounds_toArray, List.set_cons_zero, List.set_cons_succ, List.getElem_toArray, List.getElem_cons_succ, List.getElem_cons_zero]
      refine tk 14 (by assumption) rfl (by kernel_rfl) (fun _ _ _ h => h) (fun V hV => by go_simp; try with_reducible rfl) ?_
      try simp only [Act.put, List.setIfInBounds_toArray, List.set_cons_zero, List.set_cons_succ, List.getElem_toArray, List.getElem_cons_succ, List.getElem_cons_zero]
      refine tk 15 (by assumption) rfl (by kernel_rfl) (fun _ _ _ h => h) (fun V hV => by go_simp; try with_reducible rfl) ?_
      try simp only [Act.put, List.setIfInBounds_toArray, List.set_cons_zero, List.set_cons_succ, List.getElem_toArray, List.getElem_cons_succ, List.getElem_cons_zero]
      refine tk 16 (by assumption) rfl (by kernel_rfl) (fun _ _ _ h => h) (fun V hV => by go_simp; try with_reducible rfl) ?_
      try simp only [Act.put, List.setIfInBounds_toArray, List.set_cons_zero, List.set_cons_succ, List.getElem_toArray, List.getElem_cons_succ, List.getElem_cons_zero]
      refine tk 17 (by assumption) rfl (by kernel_rfl) (fun _ _ _ h => h) (fun V hV => by have hc := K3 V hV; go_simp; try with_reducible rfl) ?_
      try simp only [Act.put, List.setIfInBounds_toArray, List.set_cons_zero, List.set_cons_succ, List.getElem_toArray, List.getElem_cons_succ, List.getElem_cons_zero]
      refine tk 18 (by assumption) rfl (by kernel_rfl) (fun _ _ _ h => h) (fun V hV => by go_simp; try with_reducible rfl) ?_
      try simp only [Act.put, List.setIfInBounds_toArray, List.set_cons_zero, List.set_cons_succ, List.getElem_toArray, List.getElem_cons_succ, List.getElem_cons_zero]
      refine tk 19 (by assumption) rfl (by kernel_rfl) (fun _ _ _ h => h) (fun V hV => by go_simp; try with_reducible rfl) ?_
      try simp only [Act.put, List.setIfInBounds_toArray, List.set_cons_zero, List.set_cons_succ, List.getElem_toArray, List.getElem_cons_succ, List.getElem_cons_zero]
      refine tk 20 (by assumption) rfl (by kernel_rfl) (fun _ _ _ h => h) (tk_load 57 (.tmp 35) rfl rb (ro + 24) rfl (fvals fu4 fi4 ff4 fb4 ft4 fa4 fn4 fc4) _ K4 Tryz.underlying57 (by rfl) (by kernel_rfl)) ?_
      try simp only [Act.put, List.setIfInBounds_toArray, List.set_cons_zero, List.set_cons_succ, List.getElem_toArray, List.getElem_cons_succ, List.getElem_cons_zero]
      refine wpAnyH_ready (rs := [5]) (by kernel_rfl) (by simp) ?_
      refine AllReadyH.cons (o := _) rfl (fun K hK => ?_) AllReadyH.nil
      go_simp
      refine (HW0.out _).mono ?_
      rintro e V1 ⟨rfl, hb3⟩
      have B1 := Lib.hid (below_nx B0.out hb3)
      clear hb3
      go_wp2_with fail
      refine hK.out _ _ ⟨_, B1.out, Or.inl rfl⟩ (fun hH => ?_)
      clear hK K
      try simp only [Act.put, List.setIfInBounds_toArray, List.set_cons_zero, List.set_cons_succ, List.getElem_toArray, List.getElem_cons_succ, List.getElem_cons_zero]
      refine wpAnyH_ready (rs := [9]) (by kernel_rfl) (by simp) ?_
      refine AllReadyH.cons (o := _) rfl (fun K hK => ?_) AllReadyH.nil
      go_simp
      refine (HW1.out _).mono ?_
      rintro e V2 ⟨rfl, hb3⟩
      have B2 := Lib.hid (below_nx B1.out hb3)
      clear hb3
      go_wp2_with fail
      refine hK.out _ _ ⟨_, B2.out, Or.inl rfl⟩ (fun hH => ?_)
      clear hK K
      try simp only [Act.put, List.setIfInBounds_toArray, List.set_cons_zero, List.set_cons_succ, List.getElem_toArray, List.getElem_cons_succ, List.getElem_cons_zero]
      refine wpAnyH_ready (rs := [21]) (by kernel_rfl) (by simp) ?_
      refine AllReadyH.cons (o := _) rfl (fun K hK => ?_) AllReadyH.nil
      go_simp
      refine (HW4.out _).mono ?_
      rintro e V3 ⟨rfl, hb3⟩
      have B3 := Lib.hid (below_nx B2.out hb3)
      clear hb3
      go_wp2_with fail
      refine hK.out _ _ ⟨_, B3.out, Or.inl rfl⟩ (fun hH => ?_)
      clear hK K
      try simp only [Act.put, List.setIfInBounds_toArray, List.set_cons_zero, List.set_cons_succ, List.getElem_toArray, List.getElem_cons_succ, List.getElem_cons_zero]
      refine tk 22 (by assumption) rfl (by kernel_rfl) (fun _ _ _ h => h) (fun V hV => by go_simp; try with_reducible rfl) ?_
      try simp only [Act.put, List.setIfInBounds_toArray, List.set_cons_zero, List.set_cons_succ, List.getElem_toArray, List.getElem_cons_succ, List.getElem_cons_zero]
      refine tk 23 (by assumption) rfl (by kernel_rfl) (fun _ _ _ h => h) (fun V hV => by go_simp; try with_reducible rfl) ?_
      try simp only [Act.put, List.setIfInBounds_toArray, List.set_cons_zero, List.set_cons_succ, List.getElem_toArray, List.getElem_cons_succ, List.getElem_cons_zero]
      have ho3 := own_kept HO.out (B3.out.mono (Nat.le_refl _))
      have hth : V3.there b0 (k * 5) 5 := own_there ho3 (k * 5) 5 (by omega)
      obtain ⟨zs, ho4⟩ := HST.out V3 ho3
      have HO4 := Lib.hid ho4
      clear ho3 ho4
      refine wpAnyH_ready (rs := [24]) (by kernel_rfl) (by simp) ?_
      refine AllReadyH.cons (o := _) rfl (fun K hK => ?_) AllReadyH.nil
      rw [if_pos (by rfl)]
      refine wp_store_mid _ _ _ rfl b0 (k * 5) #[.int .i64 x0, .int .i64 x1, .float .f64 y2, .float .f64 y3, .int .i64 x4] (by first | rfl | simp) rfl hth (by kernel_rfl) (all_oneCell_toArray (cs := [.int .i64 x0, .int .i64 x1, .float .f64 y2, .float .f64 y3, .int .i64 x4]) (by intro v hv; simp only [List.mem_cons, List.not_mem_nil, or_false] at hv; rcases hv with rfl | rfl | rfl | rfl | rfl <;> rfl)) ?_
      refine hK.out _ _ ⟨_, B3.out, Or.inr rfl⟩ (fun hH => ?_)
      clear hK K
      refine wpAnyH_done (by kernel_rfl) ?_ _
      have HB4 : Hid (Below b0 w (V3.setCells b0 (k * 5) [.int .i64 x0, .int .i64 x1, .float .f64 y2, .float .f64 y3, .int .i64 x4])) := Lib.hid (below_set b0 (Nat.le_refl _) _ _ _ (HB.out.trans (B3.out.mono (Nat.le_of_lt HSZ.out))))
      have hsz4 : b0 < (V3.setCells b0 (k * 5) [.int .i64 x0, .int .i64 x1, .float .f64 y2, .float .f64 y3, .int .i64 x4]).heap.size := (HO4.out.lt b0 rfl).2
      have ho4 := HO4.out
      simp only [nwCell] at ho4
      have HO5 := Lib.hid ho4
      clear HO4 ho4 hth
      generalize V3.setCells b0 (k * 5) [.int .i64 x0, .int .i64 x1, .float .f64 y2, .float .f64 y3, .int .i64 x4] = Vz at *
      go_wp2_with fail
      refine ⟨⟨k + 1, by simp, by omega, HB4.out, hsz4, zs, HO5.out⟩, ?_⟩
      simp [intOf]; omega
    · obtain rfl : k = rows.length := by omega
      have hkn2 : ¬ ((rows.length : Int) < (rows.length : Int)) := by omega
      have ho := HO.out
      rw [List.take_length] at ho
      have hys : ys = [] := by
        have := ho.1
        rw [List.length_append, nwCells_len, nws_len] at this
        exact List.eq_nil_of_length_eq_zero (by omega)
      rw [hys, List.append_nil] at ho
      have HE := Lib.hid ho
      clear ho hown hbel
      go_wp2_with fail
      go_ret
      exact ⟨some ⟨b0, 0, none⟩, rows.length, by rw [nws_len]; rfl, by unfold NewsOwn; rw [nws_len, hB0]; exact HE.out, by rw [hB0]; exact HB.out⟩
end Go.Proofs.YtidfgjgbigedeaaGreatDoor
