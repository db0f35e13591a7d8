/- Deltas, the program: what makes one list of another one. -/
import Derived.Test.YtfnmfmelcghjbaaDwE
import Derived.Shelf.RegionOpen
namespace Go.Proofs.Ytfnmfmelcghjbaa
open Go.RowKit Go.Lib Go.Ow Go.Cw Go.Fq Go.Mq Go.Kq Go.Kw Go.Dq
set_option linter.unusedVariables false
set_option linter.unusedSimpArgs false
set_option maxRecDepth 100000

open Go.Shelf
attribute [local go_sem] Oper.semAt_some
theorem kwpIn_append {F : Fence} {n : Nat} {op : Oper} {a : Act} {w w' : World} {K : Act → World → Prop} {Q : Exit → Act → World → Prop} (t : TypeId) (s x : Operand) (ho : op.op = Op.call { callee := Callee.builtin Builtin.append, args := #[s, x], argTypes := #[t, t] }) (vs vx v : Value) (hs : a.eval s = vs) (hx : a.eval x = vx) (h : ∀ ty, (Builtin.append_ #[t, t] ty #[vs, vx]).run Try.prog w = .ok v w') (hk : K (a.put op.dst v) w') : op.wpIn F n Try.prog a w K Q := by
  unfold Oper.wpIn
  refine ⟨?_, ?_⟩
  · simp [Oper.about, ho, resolve, Target.leads, Sem.run_pure]
  · rw [Oper.semAt_plain F _ _ (by rw [ho]; intro c hc'; cases hc')]
    simp [execOp, ho, resolve, invoke, builtin, hs, hx, h, Result.andThen]
    exact hk
theorem ko_below {W V : World} (h : Below W.heap.size W V) : KeepsOthers W V := ⟨h.size, fun k o hk _ => (h.block k (Array.getElem?_eq_some_iff.1 hk).1).trans hk⟩
theorem boxed_below {W V : World} {p : Nat} {t : TypeId} {v : Value} (h : Boxed W p t v) (hb : Below W.heap.size W V) : Boxed V p t v := (hb.block p h.lt).trans h
/-- One more in a list that lies in a box. -/
theorem box_put {p : Nat} {w0 : World} (hp : p < w0.heap.size) {O : List Nw} (n : Nw) {W V : World} {a : Option Addr} {c r : Nat} (hbx : Boxed W p 22 (.slice a O.length c)) (hrow : Nr W r (.slice a O.length c) O) (hr : w0.heap.size ≤ r) (hsz : w0.heap.size ≤ W.heap.size) (hV : Below W.heap.size W V) (hlen : (O.length + 1) * 40 ≤ 140737488355328) :
    ∃ a' c' W9, (∀ ty, (Builtin.append_ #[22, 22] ty #[.slice a O.length c, .slice (some ⟨V.heap.size, 0, none⟩) 1 1]).run Try.prog (V.alloc (nwO n)) = .ok (.slice a' (O.length + 1) c') W9) ∧ Boxed W9 p 22 (.slice a O.length c) ∧
      ∀ U, U = W9.setCell ⟨p, 0, none⟩ (.slice a' (O.length + 1) c') → KeepsFrom w0.heap.size W U ∧ Kx p w0.heap.size W U ∧ LBox p w0 (O ++ [n]) U ∧ (∀ B, B ≤ p → Below B W U) ∧ w0.heap.size ≤ U.heap.size := by
  have hVs := hV.size
  obtain ⟨a', c', W9, hrun, ⟨r9, hr9, hrow9⟩, hb9, hko9⟩ := nw_appD n (hrow.below hV) hlen hr (by omega) _ rfl
  have e1 : (O ++ [n]).length = O.length + 1 := by simp
  rw [e1] at hrun
  have k9 : Boxed W9 p 22 (.slice a O.length c) := (hb9.block p hp).trans (boxed_below hbx hV)
  have hbW : Below w0.heap.size W W9 := (hV.mono hsz).trans hb9
  refine ⟨a', c', W9, hrun, k9, fun U e => ?_⟩
  subst e
  refine ⟨(((ko_below hV).trans hko9).from _).trans ((KeepsOthers.setCell _ _ _).from _), kx_one hbW _, ⟨a', c', r9, by rw [e1]; exact k9.set _, nr_setD hrow9 (by omega), hr9⟩, fun B hB => (hbW.mono (by omega)).setCell (p := ⟨p, 0, none⟩) hB _, ?_⟩
  rw [World.size_setCell]
  have := hbW.size
  omega
theorem low_of1 {w W0 : World} {l : List Nw} {a : Option Addr} {c : Nat} (h : Sl w l a c) (hb : Below w.heap.size w W0) : LowRow (w.heap.size + 1) W0.heap.size W0 l a := by
  rcases h.rows with h | ⟨b, o, e, hlt, hat⟩
  · exact Or.inl h
  · exact Or.inr ⟨b, o, e, by have := hb.size; omega, by omega, fun k hk => (hat k hk).kept (hb.block b hlt)⟩
theorem take_pre {a b d : List Nw} {k : Nat} (h : a ++ b = d) (hl : a.length = k) : a = d.take k := by
  rw [← h, ← hl]; simp
set_option maxHeartbeats 16000000 in
theorem dDiff_any (la lb : List Nw) (aa ab : Option Addr) (ca cb most : Nat) (w : World) (ha : Sl w la aa ca) (hb : Sl w lb ab cb) (hA : Ls la) (hB : Ls lb) (wA : ∀ x ∈ la, x.Fit) (wB : ∀ x ∈ lb, x.Fit) (hlen : la.length ≤ 4294967294 ∧ lb.length ≤ 4294967294) :
    Calls Try.prog 31 #[.slice aa la.length ca, .slice ab lb.length cb, .int .i64 (most : Int)] w fun e w' => Below w.heap.size w w' ∧ ∃ a c, e = .returned (.slice a ((diffL la lb).take most).length c) ∧ Sl w' ((diffL la lb).take most) a c := by
  have HAB := Lib.hid (And.intro ha hb)
  have HLS := Lib.hid (And.intro (And.intro hA hB) (And.intro wA wB))
  have HLEN := Lib.hid hlen
  clear ha hb hA hB wA wB hlen
  refine (callsIn_wide (n := 3)).1 ?_
  refine callsIn_of_wp_marks Try.func31 rfl trivial ?_ rfl
  simp only [Try.ntmps31, List.size_toArray, List.length_cons, List.length_nil, Nat.reduceAdd, Nat.reduceSub, Array.replicate_succ, Array.replicate_zero, List.push_toArray, List.append_toArray, List.nil_append, List.cons_append]
  gi_wp2_with (first | (gi_at_call 47; refine (callsIn_wide.2 (dSide_any _ _ _ _ _ _ _)).mono ?_; rintro e w' ⟨rfl, rfl⟩) | (refine ⟨trivial, ?_⟩; gi_at_call 47; refine (callsIn_wide.2 (dSide_any _ _ _ _ _ _ _)).mono ?_; rintro e w' ⟨rfl, rfl⟩))
  obtain ⟨wB, hwB⟩ : ∃ wB, wB = w.alloc (.cells #[.int .i64 (most : Int)] 3) := ⟨_, rfl⟩
  obtain ⟨W0, hW0⟩ : ∃ W0, W0 = ((wB.alloc (.cells #[.slice none 0 0] 22)).alloc (.cells #[.slice aa la.length ca] 22)).alloc (.cells #[.slice ab lb.length cb] 22) := ⟨_, rfl⟩
  have hzB : wB.heap.size = w.heap.size + 1 := by rw [hwB, World.size_alloc]
  have hbB : Below w.heap.size w wB := by rw [hwB]; exact gAl _ _
  have cM : wB.cell? ⟨w.heap.size, 0, none⟩ = some (.int .i64 (most : Int)) := by rw [hwB]; simp [go_sem]
  have hz : W0.heap.size = w.heap.size + 4 := by rw [hW0]; simp [hzB]
  have hb0 : Below wB.heap.size wB W0 := by rw [hW0]; exact gNx (gNx (gAl _ _) (gAl _ _)) (gAl _ _)
  have bL : Boxed W0 (w.heap.size + 1) 22 (.slice none 0 0) := by rw [hW0, ← hzB]; exact ((Boxed.new wB _ _).alloc _).alloc _
  have cA : W0.cell? ⟨w.heap.size + 1 + 1, 0, none⟩ = some (.slice aa la.length ca) := by rw [hW0, ← hzB]; simp [go_sem]
  have cB : W0.cell? ⟨w.heap.size + 1 + 1 + 1, 0, none⟩ = some (.slice ab lb.length cb) := by rw [hW0, ← hzB]; simp [go_sem]
  rw [← hwB, ← hW0]
  have hbw0 : Below w.heap.size w W0 := hbB.trans (hb0.mono (by omega))
  clear hW0 hwB
  have lowA : LowRow (w.heap.size + 1) W0.heap.size W0 la aa := low_of1 HAB.out.1 hbw0
  have lowB : LowRow (w.heap.size + 1) W0.heap.size W0 lb ab := low_of1 HAB.out.2 hbw0
  have hI : OwnFrom W0.heap.size (fun (pre : List (Nw × Nw)) W => ((LBox (w.heap.size + 1) W0 (pre.flatMap dOne) W ∧ Below wB.heap.size wB W) ∧ W0.heap.size ≤ W.heap.size) ∧ (pre.flatMap dOne).length ≤ most) := OwnFrom.and (OwnFrom.and (OwnFrom.and (lbox_from _ _ _ (fun pre => pre.flatMap dOne)) (ownFrom_below (Nat.le_refl _) (by omega))) (fun _ _ _ _ hs hg _ => Nat.le_trans hs hg.size)) (ownFrom_pure _ _)
  have hIx : ∀ cd : Code, OwnFrom W0.heap.size (fun (pre : List (Nw × Nw)) W => ((LBox (w.heap.size + 1) W0 (pre.dropLast.flatMap dOne) W ∧ Below wB.heap.size wB W) ∧ W0.heap.size ≤ W.heap.size) ∧ (cd = Code.exit 0 ∧ (pre.dropLast.flatMap dOne).length = most)) := fun cd => OwnFrom.and (OwnFrom.and (OwnFrom.and (lbox_from _ _ _ (fun pre => pre.dropLast.flatMap dOne)) (ownFrom_below (Nat.le_refl _) (by omega))) (fun _ _ _ _ hs hg _ => Nat.le_trans hs hg.size)) (ownFrom_pure _ _)
  have HZ := Lib.hid (And.intro hz hzB)
  have HM := Lib.hid cM
  have hstf := n_store
  refine wpIn_rangeFunc_ownH rfl (by omega) (gf := 61) (lb := #[.pointer (some ⟨w.heap.size + 1 + 1, 0, none⟩), .pointer (some ⟨w.heap.size + 1 + 1 + 1, 0, none⟩)]) rfl trivial (enters_of Try.func61 (by kernel_rfl) rfl)
    (sbs_seq la lb aa ab ca cb 2 (w.heap.size + 1 + 1) (w.heap.size + 1 + 1 + 1) (w.heap.size + 1) W0.heap.size HLS.out.1.1 HLS.out.1.2 HLS.out.2.1 HLS.out.2.2 W0 (Nat.le_refl _) lowA lowB ⟨by omega, by omega⟩ ⟨by omega, by omega⟩ HAB.out.1.cap HAB.out.2.cap HAB.out.1.len HAB.out.2.len cA cB)
    (fun h k => h.trans k) (fun W l o o' h1 h2 h3 h4 => kx_put (p := w.heap.size + 1) (by omega) h1) (Below.refl _ _) (fun _ => rfl)
    (fun pre W => ((LBox (w.heap.size + 1) W0 (pre.flatMap dOne) W ∧ Below wB.heap.size wB W) ∧ W0.heap.size ≤ W.heap.size) ∧ (pre.flatMap dOne).length ≤ most)
    (fun cd pre W => ((LBox (w.heap.size + 1) W0 (pre.dropLast.flatMap dOne) W ∧ Below wB.heap.size wB W) ∧ W0.heap.size ≤ W.heap.size) ∧ (cd = Code.exit 0 ∧ (pre.dropLast.flatMap dOne).length = most)) hI hIx
    ⟨⟨⟨⟨none, 0, W0.heap.size, bL, Or.inl ⟨rfl, rfl, none, rfl⟩, Nat.le_refl _⟩, hb0⟩, Nat.le_refl _⟩, by simp⟩
    (fun x a' W => ∃ Bx By, W0.heap.size ≤ Bx ∧ W0.heap.size ≤ By ∧ CBox W Bx x.1 ∧ CBox W By x.2 ∧ a' = { tmps := #[.slice aa la.length ca, .slice ab lb.length cb, .int .i64 (most : Int), undef, undef, .pointer (some ⟨w.heap.size, 0, none⟩), .slice none 0 0, .pointer (some ⟨w.heap.size + 1, 0, none⟩), .pointer (some ⟨Bx, 0, none⟩), .pointer (some ⟨By, 0, none⟩), .slice aa la.length ca, .slice ab lb.length cb, .func (.func 61) #[] #[.pointer (some ⟨w.heap.size + 1 + 1, 0, none⟩), .pointer (some ⟨w.heap.size + 1 + 1 + 1, 0, none⟩)], nwV x.1, nwV x.2, undef, undef, undef, undef, undef, undef, undef, undef, undef, undef, undef, undef, undef, undef, undef, undef, undef, undef, undef, undef, undef, undef], defers := [] })
    (fun x a' => ax_from _ _ _) ?assign ?body ?done ?stop
  case assign =>
    rintro l pre x W K hi hK
    simp only [encP]
    gi_wp2
    exact hK _ _ (((KeepsOthers.alloc _ _).trans (KeepsOthers.alloc _ _)).from _) (Kx.of ((gNx (gAl W _) (gAl _ _)).mono hi.1.2)) (hI.alloc _ (hI.alloc _ hi)) ⟨W.heap.size, W.heap.size + 1, hi.1.2, Nat.le_succ_of_le hi.1.2, (CBox.new W x.1).below (gAl _ _), by have := CBox.new (W.alloc (nwO x.1)) x.2; rw [World.size_alloc] at this; exact this, rfl⟩
  case body =>
    rintro l pre x a0 W hl ⟨r, hr⟩ ⟨⟨⟨⟨a, c, r0, hbx, hrow, hr0⟩, hB⟩, hsz⟩, hmo⟩ ⟨Bx, By, g1, g2, hx, hy, rfl⟩ hlt
    obtain ⟨x1, x2⟩ := x
    simp only at hx hy
    obtain ⟨O1, hO1⟩ : ∃ O1, O1 = pre.flatMap dOne := ⟨_, rfl⟩
    rw [← hO1] at hbx hrow hmo
    have HO1 := Lib.hid hO1
    clear hO1
    have HX := Lib.hid (And.intro hx (And.intro hy (And.intro hbx (And.intro hrow (And.intro hr0 (And.intro hB hsz))))))
    have cL := hbx.cell
    have fL := hbx.frozen
    have cM : W.cell? ⟨w.heap.size, 0, none⟩ = some (.int .i64 (most : Int)) := (hB.cell (p := ⟨w.heap.size, 0, none⟩) (by show w.heap.size < _; have := HZ.out.2; omega)).trans HM.out
    obtain ⟨c0, c1, c2, c3, c4⟩ := hx.cells
    obtain ⟨d0, d1, d2, d3, d4⟩ := hy.cells
    have HL9 : Hid ((O1.length + 1) * 40 ≤ 140737488355328) := Lib.hid (by
      rw [HO1.out]
      have h1 := flat_le (S := pre) dOne_len
      have h2 := sbs_len _ la lb (Nat.le_refl _)
      have h3 := HLEN.out
      omega)
    have HNone := Lib.hid (fun V => dNone_any x2 V)
    have HGone := Lib.hid (fun V => dGoneOf_any x1 V)
    have HSame := Lib.hid (fun V => dSame_any x1 x2 V)
    have HDL : Hid ((pre ++ [(x1, x2)]).dropLast = pre) := Lib.hid (by simp)
    have HFL : Hid ((pre ++ [(x1, x2)]).flatMap dOne = O1 ++ dOne (x1, x2)) := Lib.hid (by rw [List.flatMap_append, ← HO1.out]; simp)
    clear hx hy hbx hrow hr0 hB hsz
    by_cases hlm : O1.length = most
    · have hlb : ((O1.length : Int) == (most : Int)) = true := by simp [hlm]
      have HLM := Lib.hid hlm
      clear hlm
      gi_wp2
      refine ⟨KeepsFrom.refl _ _, ?_⟩
      dsimp only
      rw [HDL.out, ← HO1.out]
      exact ⟨⟨⟨⟨a, c, r0, HX.out.2.2.1, HX.out.2.2.2.1, HX.out.2.2.2.2.1⟩, HX.out.2.2.2.2.2.1⟩, HX.out.2.2.2.2.2.2⟩, rfl, HLM.out⟩
    · have hlb : ((O1.length : Int) == (most : Int)) = false := by simp; omega
      have HLM : Hid (O1.length + 1 ≤ most) := Lib.hid (by omega)
      clear hlm hmo
      by_cases hd : x2.dest = 0
      · have hdb : (x2.dest == 0) = true := by simp [hd]
        rw [hdb] at HNone
        have hone : dOne (x1, x2) = [goneN x1] := by simp [dOne, hd]
        rw [hone] at HFL
        clear hdb hd hone
        have HPUT := Lib.hid (fun V (hV : Below W.heap.size W V) => box_put (p := w.heap.size + 1) (w0 := W0) (by have := HZ.out.1; omega) (goneN x1) HX.out.2.2.1 HX.out.2.2.2.1 HX.out.2.2.2.2.1 HX.out.2.2.2.2.2.2 hV HL9.out)
        gi_wp2_with (first | (gi_at_call 48; refine (CallsIn.inRound l (callsIn_wide.2 (HNone.out _))).mono ?_; rintro e w' ⟨rfl, rfl⟩; obtain ⟨e0, e1, e2, e3, e4⟩ := (HX.out.1.below (gAl W (nwO x2))).cells; obtain ⟨f0, f1, f2, f3, f4⟩ := (HX.out.2.1.below (gAl W (nwO x2))).cells; have cL2 := (HX.out.2.2.1.alloc (nwO x2)).cell) | (refine ⟨trivial, ?_⟩; gi_at_call 48; refine (CallsIn.inRound l (callsIn_wide.2 (HNone.out _))).mono ?_; rintro e w' ⟨rfl, rfl⟩; obtain ⟨e0, e1, e2, e3, e4⟩ := (HX.out.1.below (gAl W (nwO x2))).cells; obtain ⟨f0, f1, f2, f3, f4⟩ := (HX.out.2.1.below (gAl W (nwO x2))).cells; have cL2 := (HX.out.2.2.1.alloc (nwO x2)).cell))
        have hmx : Try.prog.follows .mixedOrders = true := by kernel_rfl
        refine wpIn_region_any (by assumption) ?_
        change wpAnyIn _ _ _ _ _ _ _ _ _ (World.drew _)
        refine wpAnyIn_ready (rs := [0, 1]) (by kernel_rfl) (by simp) ?_
        refine AllReadyIn.cons rfl (fun K hK => ?_) (AllReadyIn.cons rfl (fun K hK => ?_) AllReadyIn.nil)
        · go_simp
          refine hK _ _ ?_
          clear hK K
          refine wpAnyIn_ready (rs := [1]) (by kernel_rfl) (by simp) ?_
          refine AllReadyIn.cons rfl (fun K hK => ?_) AllReadyIn.nil
          go_simp
          refine hK _ _ ?_
          clear hK K
          refine wpAnyIn_ready (rs := [2]) (by kernel_rfl) (by simp) ?_
          refine AllReadyIn.cons rfl (fun K hK => ?_) AllReadyIn.nil
          go_simp
          gi_wp2_with (first | (gi_at_call 49; refine (CallsIn.inRound l (callsIn_wide.2 (HGone.out _))).mono ?_; rintro e V ⟨rfl, hbV0⟩; have hbV : Below (W.alloc (nwO x2)).heap.size (W.alloc (nwO x2)) V := (Below.refl _ _).drew.trans hbV0; clear hbV0; have HBV := Lib.hid hbV; obtain ⟨g0, g1, g2, g3, g4⟩ := (HX.out.2.1.below (gNx (gAl W (nwO x2)) hbV)).cells; have cL3 := (boxed_below HX.out.2.2.1 (gNx (gAl W (nwO x2)) hbV)).cell; have cL5 := ((boxed_below HX.out.2.2.1 (gNx (gAl W (nwO x2)) hbV)).alloc (nwO (goneN x1))).cell; obtain ⟨a', c', W9, hrun, k9, hfin⟩ := HPUT.out V (gNx (gAl W (nwO x2)) hbV); have cK := k9.cell; have fK := k9.frozen; have HF9 := Lib.hid hfin; clear k9 hfin; clear hbV) | (refine ⟨trivial, ?_⟩; gi_at_call 49; refine (CallsIn.inRound l (callsIn_wide.2 (HGone.out _))).mono ?_; rintro e V ⟨rfl, hbV0⟩; have hbV : Below (W.alloc (nwO x2)).heap.size (W.alloc (nwO x2)) V := (Below.refl _ _).drew.trans hbV0; clear hbV0; have HBV := Lib.hid hbV; obtain ⟨g0, g1, g2, g3, g4⟩ := (HX.out.2.1.below (gNx (gAl W (nwO x2)) hbV)).cells; have cL3 := (boxed_below HX.out.2.2.1 (gNx (gAl W (nwO x2)) hbV)).cell; have cL5 := ((boxed_below HX.out.2.2.1 (gNx (gAl W (nwO x2)) hbV)).alloc (nwO (goneN x1))).cell; obtain ⟨a', c', W9, hrun, k9, hfin⟩ := HPUT.out V (gNx (gAl W (nwO x2)) hbV); have cK := k9.cell; have fK := k9.frozen; have HF9 := Lib.hid hfin; clear k9 hfin; clear hbV))
          try clear hK K
          refine wpAnyIn_ready (rs := [3]) (by kernel_rfl) (by simp) ?_
          refine AllReadyIn.cons rfl (fun K hK => ?_) AllReadyIn.nil
          go_simp
          refine hK _ _ ?_
          clear hK K
          refine wpAnyIn_ready (rs := [4]) (by kernel_rfl) (by simp) ?_
          refine AllReadyIn.cons rfl (fun K hK => ?_) AllReadyIn.nil
          rw [if_pos (by rfl)]
          refine kwpIn_append 22 (.tmp 22) (.tmp 25) rfl _ _ _ rfl rfl hrun ?_
          refine hK _ _ ?_
          clear hK K
          refine wpAnyIn_ready (rs := [5]) (by kernel_rfl) (by simp) ?_
          refine AllReadyIn.cons rfl (fun K hK => ?_) AllReadyIn.nil
          go_simp
          refine hK _ _ ?_
          clear hK K
          refine wpAnyIn_done (by kernel_rfl) ?_ _
          gi_wp2
          obtain ⟨k1, k2, k3, k4, k5⟩ := HF9.out _ rfl
          refine ⟨k1, k2, ?_⟩
          dsimp only
          rw [HFL.out]
          have hlm9 := HLM.out
          exact ⟨⟨⟨k3, HX.out.2.2.2.2.2.1.trans (k4 _ (by have := HZ.out.2; omega))⟩, k5⟩, by simp; omega⟩
        · go_simp
          refine hK _ _ ?_
          clear hK K
          refine wpAnyIn_ready (rs := [0, 2]) (by kernel_rfl) (by simp) ?_
          refine AllReadyIn.cons rfl (fun K hK => ?_) (AllReadyIn.cons rfl (fun K hK => ?_) AllReadyIn.nil)
          · go_simp
            refine hK _ _ ?_
            clear hK K
            refine wpAnyIn_ready (rs := [2]) (by kernel_rfl) (by simp) ?_
            refine AllReadyIn.cons rfl (fun K hK => ?_) AllReadyIn.nil
            go_simp
            gi_wp2_with (first | (gi_at_call 49; refine (CallsIn.inRound l (callsIn_wide.2 (HGone.out _))).mono ?_; rintro e V ⟨rfl, hbV0⟩; have hbV : Below (W.alloc (nwO x2)).heap.size (W.alloc (nwO x2)) V := (Below.refl _ _).drew.trans hbV0; clear hbV0; have HBV := Lib.hid hbV; obtain ⟨g0, g1, g2, g3, g4⟩ := (HX.out.2.1.below (gNx (gAl W (nwO x2)) hbV)).cells; have cL3 := (boxed_below HX.out.2.2.1 (gNx (gAl W (nwO x2)) hbV)).cell; have cL5 := ((boxed_below HX.out.2.2.1 (gNx (gAl W (nwO x2)) hbV)).alloc (nwO (goneN x1))).cell; obtain ⟨a', c', W9, hrun, k9, hfin⟩ := HPUT.out V (gNx (gAl W (nwO x2)) hbV); have cK := k9.cell; have fK := k9.frozen; have HF9 := Lib.hid hfin; clear k9 hfin; clear hbV) | (refine ⟨trivial, ?_⟩; gi_at_call 49; refine (CallsIn.inRound l (callsIn_wide.2 (HGone.out _))).mono ?_; rintro e V ⟨rfl, hbV0⟩; have hbV : Below (W.alloc (nwO x2)).heap.size (W.alloc (nwO x2)) V := (Below.refl _ _).drew.trans hbV0; clear hbV0; have HBV := Lib.hid hbV; obtain ⟨g0, g1, g2, g3, g4⟩ := (HX.out.2.1.below (gNx (gAl W (nwO x2)) hbV)).cells; have cL3 := (boxed_below HX.out.2.2.1 (gNx (gAl W (nwO x2)) hbV)).cell; have cL5 := ((boxed_below HX.out.2.2.1 (gNx (gAl W (nwO x2)) hbV)).alloc (nwO (goneN x1))).cell; obtain ⟨a', c', W9, hrun, k9, hfin⟩ := HPUT.out V (gNx (gAl W (nwO x2)) hbV); have cK := k9.cell; have fK := k9.frozen; have HF9 := Lib.hid hfin; clear k9 hfin; clear hbV))
            try clear hK K
            refine wpAnyIn_ready (rs := [3]) (by kernel_rfl) (by simp) ?_
            refine AllReadyIn.cons rfl (fun K hK => ?_) AllReadyIn.nil
            go_simp
            refine hK _ _ ?_
            clear hK K
            refine wpAnyIn_ready (rs := [4]) (by kernel_rfl) (by simp) ?_
            refine AllReadyIn.cons rfl (fun K hK => ?_) AllReadyIn.nil
            rw [if_pos (by rfl)]
            refine kwpIn_append 22 (.tmp 22) (.tmp 25) rfl _ _ _ rfl rfl hrun ?_
            refine hK _ _ ?_
            clear hK K
            refine wpAnyIn_ready (rs := [5]) (by kernel_rfl) (by simp) ?_
            refine AllReadyIn.cons rfl (fun K hK => ?_) AllReadyIn.nil
            go_simp
            refine hK _ _ ?_
            clear hK K
            refine wpAnyIn_done (by kernel_rfl) ?_ _
            gi_wp2
            obtain ⟨k1, k2, k3, k4, k5⟩ := HF9.out _ rfl
            refine ⟨k1, k2, ?_⟩
            dsimp only
            rw [HFL.out]
            have hlm9 := HLM.out
            exact ⟨⟨⟨k3, HX.out.2.2.2.2.2.1.trans (k4 _ (by have := HZ.out.2; omega))⟩, k5⟩, by simp; omega⟩
          · go_simp
            gi_wp2_with (first | (gi_at_call 49; refine (CallsIn.inRound l (callsIn_wide.2 (HGone.out _))).mono ?_; rintro e V ⟨rfl, hbV0⟩; have hbV : Below (W.alloc (nwO x2)).heap.size (W.alloc (nwO x2)) V := (Below.refl _ _).drew.trans hbV0; clear hbV0; have HBV := Lib.hid hbV; obtain ⟨g0, g1, g2, g3, g4⟩ := (HX.out.2.1.below (gNx (gAl W (nwO x2)) hbV)).cells; have cL3 := (boxed_below HX.out.2.2.1 (gNx (gAl W (nwO x2)) hbV)).cell; have cL5 := ((boxed_below HX.out.2.2.1 (gNx (gAl W (nwO x2)) hbV)).alloc (nwO (goneN x1))).cell; obtain ⟨a', c', W9, hrun, k9, hfin⟩ := HPUT.out V (gNx (gAl W (nwO x2)) hbV); have cK := k9.cell; have fK := k9.frozen; have HF9 := Lib.hid hfin; clear k9 hfin; clear hbV) | (refine ⟨trivial, ?_⟩; gi_at_call 49; refine (CallsIn.inRound l (callsIn_wide.2 (HGone.out _))).mono ?_; rintro e V ⟨rfl, hbV0⟩; have hbV : Below (W.alloc (nwO x2)).heap.size (W.alloc (nwO x2)) V := (Below.refl _ _).drew.trans hbV0; clear hbV0; have HBV := Lib.hid hbV; obtain ⟨g0, g1, g2, g3, g4⟩ := (HX.out.2.1.below (gNx (gAl W (nwO x2)) hbV)).cells; have cL3 := (boxed_below HX.out.2.2.1 (gNx (gAl W (nwO x2)) hbV)).cell; have cL5 := ((boxed_below HX.out.2.2.1 (gNx (gAl W (nwO x2)) hbV)).alloc (nwO (goneN x1))).cell; obtain ⟨a', c', W9, hrun, k9, hfin⟩ := HPUT.out V (gNx (gAl W (nwO x2)) hbV); have cK := k9.cell; have fK := k9.frozen; have HF9 := Lib.hid hfin; clear k9 hfin; clear hbV))
            try clear hK K
            refine wpAnyIn_ready (rs := [0, 3]) (by kernel_rfl) (by simp) ?_
            refine AllReadyIn.cons rfl (fun K hK => ?_) (AllReadyIn.cons rfl (fun K hK => ?_) AllReadyIn.nil)
            · go_simp
              refine hK _ _ ?_
              clear hK K
              refine wpAnyIn_ready (rs := [3]) (by kernel_rfl) (by simp) ?_
              refine AllReadyIn.cons rfl (fun K hK => ?_) AllReadyIn.nil
              go_simp
              refine hK _ _ ?_
              clear hK K
              refine wpAnyIn_ready (rs := [4]) (by kernel_rfl) (by simp) ?_
              refine AllReadyIn.cons rfl (fun K hK => ?_) AllReadyIn.nil
              rw [if_pos (by rfl)]
              refine kwpIn_append 22 (.tmp 22) (.tmp 25) rfl _ _ _ rfl rfl hrun ?_
              refine hK _ _ ?_
              clear hK K
              refine wpAnyIn_ready (rs := [5]) (by kernel_rfl) (by simp) ?_
              refine AllReadyIn.cons rfl (fun K hK => ?_) AllReadyIn.nil
              go_simp
              refine hK _ _ ?_
              clear hK K
              refine wpAnyIn_done (by kernel_rfl) ?_ _
              gi_wp2
              obtain ⟨k1, k2, k3, k4, k5⟩ := HF9.out _ rfl
              refine ⟨k1, k2, ?_⟩
              dsimp only
              rw [HFL.out]
              have hlm9 := HLM.out
              exact ⟨⟨⟨k3, HX.out.2.2.2.2.2.1.trans (k4 _ (by have := HZ.out.2; omega))⟩, k5⟩, by simp; omega⟩
            · go_simp
              refine hK _ _ ?_
              clear hK K
              refine wpAnyIn_ready (rs := [0]) (by kernel_rfl) (by simp) ?_
              refine AllReadyIn.cons rfl (fun K hK => ?_) AllReadyIn.nil
              go_simp
              refine hK _ _ ?_
              clear hK K
              refine wpAnyIn_ready (rs := [4]) (by kernel_rfl) (by simp) ?_
              refine AllReadyIn.cons rfl (fun K hK => ?_) AllReadyIn.nil
              rw [if_pos (by rfl)]
              refine kwpIn_append 22 (.tmp 22) (.tmp 25) rfl _ _ _ rfl rfl hrun ?_
              refine hK _ _ ?_
              clear hK K
              refine wpAnyIn_ready (rs := [5]) (by kernel_rfl) (by simp) ?_
              refine AllReadyIn.cons rfl (fun K hK => ?_) AllReadyIn.nil
              go_simp
              refine hK _ _ ?_
              clear hK K
              refine wpAnyIn_done (by kernel_rfl) ?_ _
              gi_wp2
              obtain ⟨k1, k2, k3, k4, k5⟩ := HF9.out _ rfl
              refine ⟨k1, k2, ?_⟩
              dsimp only
              rw [HFL.out]
              have hlm9 := HLM.out
              exact ⟨⟨⟨k3, HX.out.2.2.2.2.2.1.trans (k4 _ (by have := HZ.out.2; omega))⟩, k5⟩, by simp; omega⟩
      · have hdb : (x2.dest == 0) = false := by simp [hd]
        rw [hdb] at HNone
        clear hdb
        cases hsm : nwE x1 x2 with
        | true =>
          rw [hsm] at HSame
          have hone : dOne (x1, x2) = [] := by simp [dOne, hd, hsm]
          rw [hone, List.append_nil] at HFL
          clear hd hsm hone
          gi_wp2_with (first | (gi_at_call 48; refine (CallsIn.inRound l (callsIn_wide.2 (HNone.out _))).mono ?_; rintro e w' ⟨rfl, rfl⟩; obtain ⟨e0, e1, e2, e3, e4⟩ := (HX.out.1.below (gAl W (nwO x2))).cells; obtain ⟨f0, f1, f2, f3, f4⟩ := (HX.out.2.1.below (gAl W (nwO x2))).cells; have cL2 := (HX.out.2.2.1.alloc (nwO x2)).cell) | (refine ⟨trivial, ?_⟩; gi_at_call 48; refine (CallsIn.inRound l (callsIn_wide.2 (HNone.out _))).mono ?_; rintro e w' ⟨rfl, rfl⟩; obtain ⟨e0, e1, e2, e3, e4⟩ := (HX.out.1.below (gAl W (nwO x2))).cells; obtain ⟨f0, f1, f2, f3, f4⟩ := (HX.out.2.1.below (gAl W (nwO x2))).cells; have cL2 := (HX.out.2.2.1.alloc (nwO x2)).cell) | (gi_at_call 50; refine (CallsIn.inRound l (callsIn_wide.2 (HSame.out _))).mono ?_; rintro e V ⟨rfl, hbV⟩; have HBV := Lib.hid hbV; obtain ⟨g0, g1, g2, g3, g4⟩ := (HX.out.2.1.below (gNx (gAl W (nwO x2)) hbV)).cells; have cL3 := (boxed_below HX.out.2.2.1 (gNx (gAl W (nwO x2)) hbV)).cell; clear hbV) | (refine ⟨trivial, ?_⟩; gi_at_call 50; refine (CallsIn.inRound l (callsIn_wide.2 (HSame.out _))).mono ?_; rintro e V ⟨rfl, hbV⟩; have HBV := Lib.hid hbV; obtain ⟨g0, g1, g2, g3, g4⟩ := (HX.out.2.1.below (gNx (gAl W (nwO x2)) hbV)).cells; have cL3 := (boxed_below HX.out.2.2.1 (gNx (gAl W (nwO x2)) hbV)).cell; clear hbV))
          have hbw : Below W.heap.size W V := gNx (gAl W (nwO x2)) HBV.out
          refine ⟨(ko_below hbw).from _, Kx.of (hbw.mono HX.out.2.2.2.2.2.2), ?_⟩
          dsimp only
          rw [HFL.out]
          have := HLM.out
          exact ⟨⟨⟨⟨a, c, r0, boxed_below HX.out.2.2.1 hbw, HX.out.2.2.2.1.below hbw, HX.out.2.2.2.2.1⟩, HX.out.2.2.2.2.2.1.trans (hbw.mono HX.out.2.2.2.2.2.1.size)⟩, by have := hbw.size; have := HX.out.2.2.2.2.2.2; omega⟩, by omega⟩
        | false =>
          rw [hsm] at HSame
          have hone : dOne (x1, x2) = [x2] := by simp [dOne, hd, hsm]
          rw [hone] at HFL
          clear hd hsm hone
          have HPUT := Lib.hid (fun V (hV : Below W.heap.size W V) => box_put (p := w.heap.size + 1) (w0 := W0) (by have := HZ.out.1; omega) x2 HX.out.2.2.1 HX.out.2.2.2.1 HX.out.2.2.2.2.1 HX.out.2.2.2.2.2.2 hV HL9.out)
          gi_wp2_with (first | (gi_at_call 48; refine (CallsIn.inRound l (callsIn_wide.2 (HNone.out _))).mono ?_; rintro e w' ⟨rfl, rfl⟩; obtain ⟨e0, e1, e2, e3, e4⟩ := (HX.out.1.below (gAl W (nwO x2))).cells; obtain ⟨f0, f1, f2, f3, f4⟩ := (HX.out.2.1.below (gAl W (nwO x2))).cells; have cL2 := (HX.out.2.2.1.alloc (nwO x2)).cell) | (refine ⟨trivial, ?_⟩; gi_at_call 48; refine (CallsIn.inRound l (callsIn_wide.2 (HNone.out _))).mono ?_; rintro e w' ⟨rfl, rfl⟩; obtain ⟨e0, e1, e2, e3, e4⟩ := (HX.out.1.below (gAl W (nwO x2))).cells; obtain ⟨f0, f1, f2, f3, f4⟩ := (HX.out.2.1.below (gAl W (nwO x2))).cells; have cL2 := (HX.out.2.2.1.alloc (nwO x2)).cell) | (gi_at_call 50; refine (CallsIn.inRound l (callsIn_wide.2 (HSame.out _))).mono ?_; rintro e V ⟨rfl, hbV⟩; have HBV := Lib.hid hbV; obtain ⟨g0, g1, g2, g3, g4⟩ := (HX.out.2.1.below (gNx (gAl W (nwO x2)) hbV)).cells; have cL3 := (boxed_below HX.out.2.2.1 (gNx (gAl W (nwO x2)) hbV)).cell; obtain ⟨a', c', W9, hrun, k9, hfin⟩ := HPUT.out V (gNx (gAl W (nwO x2)) hbV); have cK := k9.cell; have fK := k9.frozen; have HF9 := Lib.hid hfin; clear k9 hfin; clear hbV) | (refine ⟨trivial, ?_⟩; gi_at_call 50; refine (CallsIn.inRound l (callsIn_wide.2 (HSame.out _))).mono ?_; rintro e V ⟨rfl, hbV⟩; have HBV := Lib.hid hbV; obtain ⟨g0, g1, g2, g3, g4⟩ := (HX.out.2.1.below (gNx (gAl W (nwO x2)) hbV)).cells; have cL3 := (boxed_below HX.out.2.2.1 (gNx (gAl W (nwO x2)) hbV)).cell; obtain ⟨a', c', W9, hrun, k9, hfin⟩ := HPUT.out V (gNx (gAl W (nwO x2)) hbV); have cK := k9.cell; have fK := k9.frozen; have HF9 := Lib.hid hfin; clear k9 hfin; clear hbV) | (gi_at_builtin; refine wpListIn_append_runD rfl _ _ _ rfl _ _ rfl rfl hrun ?_))
          obtain ⟨k1, k2, k3, k4, k5⟩ := HF9.out _ rfl
          refine ⟨k1, k2, ?_⟩
          dsimp only
          rw [HFL.out]
          have hlm9 := HLM.out
          exact ⟨⟨⟨k3, HX.out.2.2.2.2.2.1.trans (k4 _ (by have := HZ.out.2; omega))⟩, k5⟩, by simp; omega⟩
  case done =>
    rintro D ys W hD rfl ⟨⟨⟨⟨a, c, r0, hbx, hrow, hr0⟩, hB⟩, hsz⟩, hmo⟩ hK
    have HTK : Hid ((sbs la lb).flatMap dOne = (diffL la lb).take most) := Lib.hid (by rw [List.take_of_length_le (show (diffL la lb).length ≤ most from hmo)]; rfl)
    obtain ⟨O, hO⟩ : ∃ O, O = (sbs la lb).flatMap dOne := ⟨_, rfl⟩
    rw [← hO] at hbx hrow HTK
    clear hmo hO
    have HRW := Lib.hid hrow
    have cL := hbx.cell
    have hbw : Below w.heap.size w W := hbB.trans (hB.mono (by omega))
    gi_wp2
    refine ⟨by simp, .inl ⟨_, _, rfl, run_takeDeferred hK, ?_⟩⟩
    refine ⟨_, results_tmp rfl _ _ _, hbw.trans (belowK_b (w := w) (Nat.le_refl _) W D _ _ (by omega) hK rfl rfl), a, c, by rw [← HTK.out]; rfl, ?_⟩
    rw [← HTK.out]
    have hlen9 : (O.length + 1) * 40 ≤ 140737488355328 := by
      have h1 := diff_le la lb
      have h3 := HLEN.out
      have h4 : O.length ≤ (diffL la lb).length := by rw [HTK.out]; exact List.length_take_le' _ _
      omega
    exact Sl.of_row (HRW.out.keep (fun cur hc => World.putObj_heap_other (fun e => by rw [e, hK] at hc; cases hc))) hlen9
  case stop =>
    rintro D cd pre W hD ⟨rest, hpre⟩ ⟨⟨⟨⟨a, c, r0, hbx, hrow, hr0⟩, hB⟩, hsz⟩, rfl, hlm⟩ hK
    have HTK : Hid (pre.dropLast.flatMap dOne = (diffL la lb).take most) := Lib.hid (by
      obtain ⟨t, ht⟩ := (List.dropLast_prefix pre).trans ⟨rest, hpre⟩
      refine take_pre (b := t.flatMap dOne) ?_ hlm
      rw [← List.flatMap_append, ht]
      rfl)
    obtain ⟨O, hO⟩ : ∃ O, O = pre.dropLast.flatMap dOne := ⟨_, rfl⟩
    rw [← hO] at hbx hrow HTK
    clear hlm hO hpre
    have HRW := Lib.hid hrow
    have cL := hbx.cell
    have hbw : Below w.heap.size w W := hbB.trans (hB.mono (by omega))
    gi_wp2
    refine ⟨by simp, .inl ⟨_, _, rfl, run_takeDeferred hK, ?_⟩⟩
    refine ⟨_, results_tmp rfl _ _ _, hbw.trans (belowK_b (w := w) (Nat.le_refl _) W D _ _ (by omega) hK rfl rfl), a, c, by rw [← HTK.out]; rfl, ?_⟩
    rw [← HTK.out]
    have hlen9 : (O.length + 1) * 40 ≤ 140737488355328 := by
      have h1 := diff_le la lb
      have h3 := HLEN.out
      have h4 : O.length ≤ (diffL la lb).length := by rw [HTK.out]; exact List.length_take_le' _ _
      omega
    exact Sl.of_row (HRW.out.keep (fun cur hc => World.putObj_heap_other (fun e => by rw [e, hK] at hc; cases hc))) hlen9
end Go.Proofs.Ytfnmfmelcghjbaa
