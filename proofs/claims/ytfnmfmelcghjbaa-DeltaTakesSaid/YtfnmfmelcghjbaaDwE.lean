/- Deltas, the program: a list behind news, and what makes one list of another one: ranges over the iterator. -/
import Derived.Test.YtfnmfmelcghjbaaDwD
import Derived.Shelf.Abstract
namespace Go.Proofs.Ytfnmfmelcghjbaa
open Go.RowKit Go.Lib Go.Ow Go.Cw Go.Fq Go.Mq Go.Kq Go.Kw Go.Dq
set_option linter.unusedVariables false
set_option linter.unusedSimpArgs false
set_option maxRecDepth 100000

open Go.Shelf
attribute [local go_sem] Oper.semAt_some
theorem wpListIn_append_runD {F : Fence} {n : Nat} {P : Program} {ops : Array Oper} {rest : List Oper} {o : Oper} {a : Act} {w : World} {Q : Exit → Act → World → Prop}
    (hg : o.guard = none) (s x : Operand) (t : TypeId) (hop : o.op = Op.call { callee := Callee.builtin Builtin.append, args := #[s, x], argTypes := #[t, t] }) (v u : Value) (hs : a.eval s = v) (hx : a.eval x = u) {v' : Value} {w' : World}
    (hrun : ∀ ty, (Builtin.append_ #[t, t] ty #[v, u]).run P w = .ok v' w') (h : wpListIn F n P ops Q rest (a.put o.dst v') w') : wpListIn F n P ops Q (o :: rest) a w := by
  refine wpListIn_plain hg fun K hK' => ?_
  unfold Oper.wpIn
  refine ⟨?_, ?_⟩
  · simp [Oper.about, hop, resolve, Target.leads, Sem.run_pure]
  · rw [Oper.semAt_plain F _ _ (by rw [hop]; intro c hc'; cases hc')]
    simp [execOp, hop, resolve, invoke, builtin, hs, hx, hrun, Result.andThen]
    exact hK' _ _ h
theorem nw_appD {W : World} {r : Nat} {a : Option Addr} {c : Nat} {l : List Nw} (n : Nw) (h : Nr W r (.slice a l.length c) l) (hf : (l.length + 1) * 40 ≤ 140737488355328) {B : Nat} (hB : B ≤ r) (hB2 : B ≤ W.heap.size) (W8 : World) (hW8 : W8 = W.alloc (nwO n)) :
    ∃ a' c' W9, (∀ ty, (Builtin.append_ #[22, 22] ty #[.slice a l.length c, .slice (some ⟨W.heap.size, 0, none⟩) 1 1]).run Try.prog W8 = .ok (.slice a' (l ++ [n]).length c') W9) ∧ (∃ r', B ≤ r' ∧ Nr W9 r' (.slice a' (l ++ [n]).length c') (l ++ [n])) ∧ Below B W W9 ∧ KeepsOthers W W9 := by
  obtain ⟨r0, h0, hr0, hcell⟩ : ∃ r0, Nr W r0 (.slice a l.length c) l ∧ B ≤ r0 ∧ (r0 = W.heap.size + 1 ∨ ∃ cur, W.heap[r0]? = some (.cells cur 63 (0, 0))) := by
    rcases h with h | ⟨o, cap, cur, h1, h2, h3⟩
    · exact ⟨W.heap.size + 1, Or.inl h, by omega, Or.inl rfl⟩
    · exact ⟨r, Or.inr ⟨o, cap, cur, h1, h2, h3⟩, hB, Or.inr ⟨cur, h2⟩⟩
  have b8 : Below W.heap.size W W8 := by rw [hW8]; exact gAl _ _
  have hs8 : W8.heap.size = W.heap.size + 1 := by rw [hW8]; simp
  have r8 : W8.heap[W.heap.size]? = some (.cells (nC n).toArray 63 (0, 0)) := by rw [hW8]; exact heap_alloc_new W _
  have hm : NwS (fun _ => True) W8 [n] (some ⟨W.heap.size, 0, none⟩) := Or.inr ⟨_, 0, rfl, trivial, (Array.getElem?_eq_some_iff.1 r8).1, fun k hk => by
    have : k = 0 := by simp at hk; omega
    subst this
    refine ⟨?_, ?_, ?_, ?_, ?_⟩ <;> (rw [cell_of_row W8 _ _ _ _ (0, 0) r8]; rfl)⟩
  have hs := hm.src (c := 1)
  obtain ⟨v2, Wn, r2, hrun, hrow, hr2, hxr⟩ := rw_appm (P := Try.prog) Try.underlying22 nInfo rfl (h0.below b8) hs (by simpa using hf) (by simp; omega) r0
  obtain ⟨a3, c3, rfl⟩ := hrow.slice
  have e1 : (l ++ [n]).length = l.length + 1 := by simp
  refine ⟨a3, c3, Wn, by rw [e1]; exact hrun, ⟨r2, by omega, by show Rw _ _ _ _ _ _ _; rw [e1, nRow_app]; exact hrow⟩, (b8.mono hB2).trans (hxr.below (by omega) (by omega) (by omega)), ⟨by have := hxr.size; omega, fun k ob hk ho => ?_⟩⟩
  have hkl := (Array.getElem?_eq_some_iff.1 hk).1
  have hne : k ≠ r0 := by
    rcases hcell with e | ⟨cur, e⟩
    · omega
    · intro e2
      rw [e2, e] at hk
      cases hk
      cases ho
  exact ((hxr.block k (by omega) hne hne).trans (b8.block k hkl)).trans hk
/-- A box with a list in it, and the list's own row. -/
def LBox (p : Nat) (w0 : World) (out : List Nw) (W : World) : Prop := ∃ a c r, Boxed W p 22 (.slice a out.length c) ∧ Nr W r (.slice a out.length c) out ∧ w0.heap.size ≤ r
def CBox (W : World) (B : Nat) (n : Nw) : Prop := W.heap[B]? = some (.cells (nC n).toArray 63 (0, 0))
theorem CBox.cells {W : World} {B : Nat} {n : Nw} (h : CBox W B n) : NwAt W B 0 n := by
  refine ⟨?_, ?_, ?_, ?_, ?_⟩ <;> (rw [cell_of_row W _ _ _ _ (0, 0) h]; rfl)
theorem CBox.new (W : World) (n : Nw) : CBox (W.alloc (nwO n)) W.heap.size n := heap_alloc_new W _
theorem CBox.below {W W' : World} {B : Nat} {n : Nw} (h : CBox W B n) (hb : Below W.heap.size W W') : CBox W' B n := (hb.block B (Array.getElem?_eq_some_iff.1 h).1).trans h
theorem kx_put {p n₀ : Nat} {W : World} {l : Nat} {o' : Obj} (h : n₀ ≤ n₀) (hl : n₀ ≤ l) : Kx p n₀ W (W.putObj l o') := by
  have := grownBy_putObj' W l o'
  exact ⟨rfl, rfl, rfl, this.size, fun j hj _ => World.putObj_heap_other (by omega)⟩
theorem low_of {w W0 : World} {l : List Nw} {a : Option Addr} {c : Nat} (h : Sl w l a c) (hb : Below w.heap.size w W0) : LowRow w.heap.size W0.heap.size W0 l a := by
  rcases h.rows with h | ⟨b, o, e, hlt, hat⟩
  · exact Or.inl h
  · exact Or.inr ⟨b, o, e, by have := hb.size; omega, by omega, fun k hk => (hat k hk).kept (hb.block b hlt)⟩
theorem ax_from (B0 : Nat) (x : Nw × Nw) (f : Nat → Nat → Prop) : OwnFrom B0 (fun (_ : Unit) W => ∃ Bx By, B0 ≤ Bx ∧ B0 ≤ By ∧ CBox W Bx x.1 ∧ CBox W By x.2 ∧ f Bx By) := by
  rintro s X Y row ⟨Bx, By, h1, h2, h3, h4, h5⟩ hg hr
  have kept : ∀ B n, CBox X B n → CBox Y B n := fun B n h => (hg.block B (Array.getElem?_eq_some_iff.1 h).1 (fun e => by
    obtain ⟨-, o, ho, hc⟩ := hr B e.symm
    rw [show X.heap[B]? = _ from h] at ho
    cases ho; cases hc)).trans h
  exact ⟨Bx, By, h1, h2, kept _ _ h3, kept _ _ h4, h5⟩
theorem kx_one {p n₀ : Nat} {A B : World} (h : Below n₀ A B) (v : Value) : Kx p n₀ A (B.setCell ⟨p, 0, none⟩ v) := ⟨h.os, h.tape, h.output, by rw [World.size_setCell]; exact h.size, fun j hj hp => by
  have := setCells_other p [v] 0 B j hp
  exact (by simpa [World.setCells] using this : (B.setCell ⟨p, 0, none⟩ v).heap[j]? = B.heap[j]?).trans (h.block j hj)⟩
theorem lbox_from (p : Nat) (w0 : World) (B : Nat) (f : List (Nw × Nw) → List Nw) : OwnFrom B (fun pre W => LBox p w0 (f pre) W) := by
  rintro s X Y row ⟨a, c, r, h1, h2, h3⟩ hg hr
  refine ⟨a, c, r, h1.kept hg (fun e => ?_), h2.keep (fun cur hc => hg.block r (Array.getElem?_eq_some_iff.1 hc).1 (fun e => ?_)), h3⟩
  · obtain ⟨-, o, ho, hc⟩ := hr p e.symm
    have : o = .cells #[.slice a (f s).length c] 22 := by have := ho.symm.trans h1; cases this; rfl
    rw [this] at hc; cases hc
  · obtain ⟨-, o, ho, hc2⟩ := hr r e.symm
    rw [hc] at ho; cases ho; cases hc2
set_option maxHeartbeats 16000000 in
theorem dMerge_any (la lb : List Nw) (aa ab : Option Addr) (ca cb : Nat) (w : World) (ha : Sl w la aa ca) (hb : Sl w lb ab cb) (hA : Ls la) (hB : Ls lb) (wA : ∀ x ∈ la, x.Fit) (wB : ∀ x ∈ lb, x.Fit) (hlen : la.length ≤ 4294967294 ∧ lb.length ≤ 4294967294) :
    Calls Try.prog 34 #[.slice aa la.length ca, .slice ab lb.length cb] w fun e w' => Below w.heap.size w w' ∧ ∃ a c, e = .returned (.slice a (mergL la lb).length c) ∧ Sl w' (mergL la lb) a c := by
  have HAB := Lib.hid (And.intro ha hb)
  have HLS := Lib.hid (And.intro (And.intro hA hB) (And.intro wA wB))
  have HLEN := Lib.hid hlen
  clear ha hb hA hB wA wB hlen
  refine (callsIn_wide (n := 3)).1 ?_
  refine callsIn_of_wp_marks Try.func34 rfl trivial ?_ rfl
  simp only [Try.ntmps34, List.size_toArray, List.length_cons, List.length_nil, Nat.reduceAdd, Nat.reduceSub, Array.replicate_succ, Array.replicate_zero, List.push_toArray, List.append_toArray, List.nil_append, List.cons_append]
  gi_wp2_with (first | (gi_at_call 47; refine (callsIn_wide.2 (dSide_any _ _ _ _ _ _ _)).mono ?_; rintro e w' ⟨rfl, rfl⟩) | (refine ⟨trivial, ?_⟩; gi_at_call 47; refine (callsIn_wide.2 (dSide_any _ _ _ _ _ _ _)).mono ?_; rintro e w' ⟨rfl, rfl⟩))
  obtain ⟨W0, hW0⟩ : ∃ W0, W0 = ((w.alloc (.cells #[.slice none 0 0] 22)).alloc (.cells #[.slice aa la.length ca] 22)).alloc (.cells #[.slice ab lb.length cb] 22) := ⟨_, rfl⟩
  have hz : W0.heap.size = w.heap.size + 3 := by rw [hW0]; simp
  have hb0 : Below w.heap.size w W0 := by rw [hW0]; exact gNx (gNx (gAl _ _) (gAl _ _)) (gAl _ _)
  have bL : Boxed W0 w.heap.size 22 (.slice none 0 0) := by rw [hW0]; exact ((Boxed.new w _ _).alloc _).alloc _
  have cA : W0.cell? ⟨w.heap.size + 1, 0, none⟩ = some (.slice aa la.length ca) := by rw [hW0]; simp [go_sem]
  have cB : W0.cell? ⟨w.heap.size + 1 + 1, 0, none⟩ = some (.slice ab lb.length cb) := by rw [hW0]; simp [go_sem]
  rw [← hW0]
  clear hW0
  have lowA : LowRow w.heap.size W0.heap.size W0 la aa := low_of HAB.out.1 hb0
  have lowB : LowRow w.heap.size W0.heap.size W0 lb ab := low_of HAB.out.2 hb0
  have hI : OwnFrom W0.heap.size (fun (pre : List (Nw × Nw)) W => (LBox w.heap.size W0 (pre.flatMap mOne) W ∧ Below w.heap.size w W) ∧ W0.heap.size ≤ W.heap.size) := OwnFrom.and (OwnFrom.and (lbox_from _ _ _ (fun pre => pre.flatMap mOne)) (ownFrom_below (Nat.le_refl _) (by omega))) (fun _ _ _ _ hs hg _ => Nat.le_trans hs hg.size)
  have HZ := Lib.hid hz
  have hstf := n_store
  refine wpIn_rangeFunc_ownH rfl (by omega) (gf := 61) (lb := #[.pointer (some ⟨w.heap.size + 1, 0, none⟩), .pointer (some ⟨w.heap.size + 1 + 1, 0, none⟩)]) rfl trivial (enters_of Try.func61 (by kernel_rfl) rfl)
    (sbs_seq la lb aa ab ca cb 2 (w.heap.size + 1) (w.heap.size + 1 + 1) w.heap.size W0.heap.size HLS.out.1.1 HLS.out.1.2 HLS.out.2.1 HLS.out.2.2 W0 (Nat.le_refl _) lowA lowB ⟨by omega, by omega⟩ ⟨by omega, by omega⟩ HAB.out.1.cap HAB.out.2.cap HAB.out.1.len HAB.out.2.len cA cB)
    (fun h k => h.trans k) (fun W l o o' h1 h2 h3 h4 => kx_put (p := w.heap.size) (by omega) h1) (Below.refl _ _) (fun _ => rfl)
    (fun pre W => (LBox w.heap.size W0 (pre.flatMap mOne) W ∧ Below w.heap.size w W) ∧ W0.heap.size ≤ W.heap.size)
    (fun _ _ _ => False) hI (fun _ _ _ _ _ hs _ _ => hs)
    ⟨⟨⟨none, 0, W0.heap.size, bL, Or.inl ⟨rfl, rfl, none, rfl⟩, Nat.le_refl _⟩, hb0⟩, Nat.le_refl _⟩
    (fun x a' W => ∃ Bx By, W0.heap.size ≤ Bx ∧ W0.heap.size ≤ By ∧ CBox W Bx x.1 ∧ CBox W By x.2 ∧ a' = { tmps := #[.slice aa la.length ca, .slice ab lb.length cb, undef, undef, .slice none 0 0, .pointer (some ⟨w.heap.size, 0, none⟩), .pointer (some ⟨Bx, 0, none⟩), .pointer (some ⟨By, 0, none⟩), .slice aa la.length ca, .slice ab lb.length cb, .func (.func 61) #[] #[.pointer (some ⟨w.heap.size + 1, 0, none⟩), .pointer (some ⟨w.heap.size + 1 + 1, 0, none⟩)], nwV x.1, nwV x.2, undef, undef, undef, undef, undef, undef, undef, undef, undef, undef, undef, undef, undef, undef, undef, undef], defers := [] })
    (fun x a' => ax_from _ _ _) ?assign ?body ?done ?stop
  case assign =>
    rintro l pre x W K hi hK
    simp only [encP]
    gi_wp2
    exact hK _ _ (((KeepsOthers.alloc _ _).trans (KeepsOthers.alloc _ _)).from _) (Kx.of ((gNx (gAl W _) (gAl _ _)).mono hi.2)) (hI.alloc _ (hI.alloc _ hi)) ⟨W.heap.size, W.heap.size + 1, hi.2, Nat.le_succ_of_le hi.2, (CBox.new W x.1).below (gAl _ _), by have := CBox.new (W.alloc (nwO x.1)) x.2; rw [World.size_alloc] at this; exact this, rfl⟩
  case body =>
    rintro l pre x a0 W hl ⟨r, hr⟩ ⟨⟨⟨a, c, r0, hbx, hrow, hr0⟩, hB⟩, hsz⟩ ⟨Bx, By, g1, g2, hx, hy, rfl⟩ hlt
    obtain ⟨x1, x2⟩ := x
    simp only at hx hy
    obtain ⟨O1, hO1⟩ : ∃ O1, O1 = pre.flatMap mOne := ⟨_, rfl⟩
    rw [← hO1] at hbx hrow
    have HO1 := Lib.hid hO1
    clear hO1
    have HX := Lib.hid (And.intro hx (And.intro hy hbx))
    have cL := hbx.cell
    have fL := hbx.frozen
    obtain ⟨c0, c1, c2, c3, c4⟩ := hx.cells
    obtain ⟨d0, d1, d2, d3, d4⟩ := hy.cells
    have hlen9 : (O1.length + 1) * 40 ≤ 140737488355328 := by
      rw [HO1.out]
      have h1 := flat_le (S := pre) mOne_len
      have h2 := sbs_len _ la lb (Nat.le_refl _)
      have h3 := HLEN.out
      omega
    have HNone := Lib.hid (fun V => dNone_any x2 V)
    have HGone := Lib.hid (fun V => dGone_any x2 V)
    have hzz := HZ.out
    by_cases hd : x2.dest = 0
    · have hdb : (x2.dest == 0) = true := by simp [hd]
      rw [hdb] at HNone
      clear hdb
      obtain ⟨a', c', W9, hrun, ⟨r9, hr9, hrow9⟩, hb9, hko9⟩ := nw_appD x1 (hrow.below (gAl W (nwO x2))) hlen9 hr0 (by simp; omega) _ rfl
      simp only [World.size_alloc] at hrun
      have k9 : Boxed W9 w.heap.size 22 (.slice a O1.length c) := (hb9.block w.heap.size (by omega)).trans (hbx.alloc _)
      have hm : (pre ++ [(x1, x2)]).flatMap mOne = O1 ++ [x1] := by rw [List.flatMap_append, ← HO1.out]; simp [mOne, hd]
      have HFIN : Hid (∀ V, V = W9.setCell ⟨w.heap.size, 0, none⟩ (.slice a' (O1 ++ [x1]).length c') → KeepsFrom W0.heap.size W V ∧ Kx w.heap.size W0.heap.size W V ∧ (LBox w.heap.size W0 ((pre ++ [(x1, x2)]).flatMap mOne) V ∧ Below w.heap.size w V) ∧ W0.heap.size ≤ V.heap.size) := Lib.hid (fun V e => by
        subst e
        have hbW : Below W0.heap.size W W9 := ((gAl W _).mono hsz).trans hb9
        rw [hm]
        refine ⟨(((KeepsOthers.alloc W _).trans hko9).from _).trans ((KeepsOthers.setCell _ _ _).from _), kx_one hbW _ , ⟨⟨a', c', r9, k9.set _, nr_setD hrow9 (by omega), hr9⟩, (hB.trans (hbW.mono (by omega))).setCell (p := ⟨w.heap.size, 0, none⟩) (Nat.le_refl _) _⟩, by rw [World.size_setCell]; have := hbW.size; omega⟩)
      generalize O1 ++ [x1] = O2 at *
      have cK := k9.cell
      have fK := k9.frozen
      clear hm hrow9 hb9 hko9 k9 hd
      gi_wp2_with (first | (gi_at_call 48; refine (CallsIn.inRound l (callsIn_wide.2 (HNone.out _))).mono ?_; rintro e w' ⟨rfl, rfl⟩; obtain ⟨e0, e1, e2, e3, e4⟩ := (HX.out.1.below (gAl W (nwO x2))).cells; obtain ⟨f0, f1, f2, f3, f4⟩ := (HX.out.2.1.below (gAl W (nwO x2))).cells; have cL2 := (HX.out.2.2.alloc (nwO x2)).cell) | (refine ⟨trivial, ?_⟩; gi_at_call 48; refine (CallsIn.inRound l (callsIn_wide.2 (HNone.out _))).mono ?_; rintro e w' ⟨rfl, rfl⟩; obtain ⟨e0, e1, e2, e3, e4⟩ := (HX.out.1.below (gAl W (nwO x2))).cells; obtain ⟨f0, f1, f2, f3, f4⟩ := (HX.out.2.1.below (gAl W (nwO x2))).cells; have cL2 := (HX.out.2.2.alloc (nwO x2)).cell) | (gi_at_builtin; refine wpListIn_append_runD rfl _ _ _ rfl _ _ rfl rfl hrun ?_))
      exact HFIN.out _ rfl
    · have hdb : (x2.dest == 0) = false := by simp [hd]
      rw [hdb] at HNone
      clear hdb
      cases hf : infP x2.dist with
      | true =>
        rw [hf] at HGone
        have hm : (pre ++ [(x1, x2)]).flatMap mOne = O1 := by rw [List.flatMap_append, ← HO1.out]; simp [mOne, hd, fins, hf]
        have HFIN : Hid (∀ V, V = (W.alloc (nwO x2)).alloc (nwO x2) → KeepsFrom W0.heap.size W V ∧ Kx w.heap.size W0.heap.size W V ∧ (LBox w.heap.size W0 ((pre ++ [(x1, x2)]).flatMap mOne) V ∧ Below w.heap.size w V) ∧ W0.heap.size ≤ V.heap.size) := Lib.hid (fun V e => by
          subst e
          rw [hm]
          refine ⟨((KeepsOthers.alloc _ _).trans (KeepsOthers.alloc _ _)).from _, Kx.of ((gNx (gAl W _) (gAl _ _)).mono hsz), ?_⟩
          exact ⟨⟨⟨a, c, r0, (hbx.alloc _).alloc _, hrow.below (gNx (gAl W _) (gAl _ _)), hr0⟩, hB.trans ((gNx (gAl W _) (gAl _ _)).mono hB.size)⟩, by simp; omega⟩)
        clear hm hd hf
        gi_wp2_with (first | (gi_at_call 48; refine (CallsIn.inRound l (callsIn_wide.2 (HNone.out _))).mono ?_; rintro e w' ⟨rfl, rfl⟩; obtain ⟨e0, e1, e2, e3, e4⟩ := (HX.out.1.below (gAl W (nwO x2))).cells; obtain ⟨f0, f1, f2, f3, f4⟩ := (HX.out.2.1.below (gAl W (nwO x2))).cells; have cL2 := (HX.out.2.2.alloc (nwO x2)).cell) | (refine ⟨trivial, ?_⟩; gi_at_call 48; refine (CallsIn.inRound l (callsIn_wide.2 (HNone.out _))).mono ?_; rintro e w' ⟨rfl, rfl⟩; obtain ⟨e0, e1, e2, e3, e4⟩ := (HX.out.1.below (gAl W (nwO x2))).cells; obtain ⟨f0, f1, f2, f3, f4⟩ := (HX.out.2.1.below (gAl W (nwO x2))).cells; have cL2 := (HX.out.2.2.alloc (nwO x2)).cell) | (gi_at_call 46; refine (CallsIn.inRound l (callsIn_wide.2 (HGone.out _))).mono ?_; rintro e w' ⟨rfl, rfl⟩; obtain ⟨i0, i1, i2, i3, i4⟩ := (HX.out.2.1.below (gNx (gAl W (nwO x2)) (gAl _ (nwO x2)))).cells; have cL3 := ((HX.out.2.2.alloc (nwO x2)).alloc (nwO x2)).cell) | (refine ⟨trivial, ?_⟩; gi_at_call 46; refine (CallsIn.inRound l (callsIn_wide.2 (HGone.out _))).mono ?_; rintro e w' ⟨rfl, rfl⟩; obtain ⟨i0, i1, i2, i3, i4⟩ := (HX.out.2.1.below (gNx (gAl W (nwO x2)) (gAl _ (nwO x2)))).cells; have cL3 := ((HX.out.2.2.alloc (nwO x2)).alloc (nwO x2)).cell))
        exact HFIN.out _ rfl
      | false =>
        rw [hf] at HGone
        obtain ⟨a', c', W9, hrun, ⟨r9, hr9, hrow9⟩, hb9, hko9⟩ := nw_appD x2 (hrow.below (gNx (gAl W (nwO x2)) (gAl _ (nwO x2)))) hlen9 hr0 (by simp; omega) _ rfl
        simp only [World.size_alloc] at hrun
        have k9 : Boxed W9 w.heap.size 22 (.slice a O1.length c) := (hb9.block w.heap.size (by omega)).trans ((hbx.alloc _).alloc _)
        have hm : (pre ++ [(x1, x2)]).flatMap mOne = O1 ++ [x2] := by rw [List.flatMap_append, ← HO1.out]; simp [mOne, hd, fins, hf]
        have HFIN : Hid (∀ V, V = W9.setCell ⟨w.heap.size, 0, none⟩ (.slice a' (O1 ++ [x2]).length c') → KeepsFrom W0.heap.size W V ∧ Kx w.heap.size W0.heap.size W V ∧ (LBox w.heap.size W0 ((pre ++ [(x1, x2)]).flatMap mOne) V ∧ Below w.heap.size w V) ∧ W0.heap.size ≤ V.heap.size) := Lib.hid (fun V e => by
          subst e
          have hbW : Below W0.heap.size W W9 := ((gNx (gAl W _) (gAl _ _)).mono hsz).trans hb9
          rw [hm]
          refine ⟨((((KeepsOthers.alloc W _).trans (KeepsOthers.alloc _ _)).trans hko9).from _).trans ((KeepsOthers.setCell _ _ _).from _), kx_one hbW _ , ⟨⟨a', c', r9, k9.set _, nr_setD hrow9 (by omega), hr9⟩, (hB.trans (hbW.mono (by omega))).setCell (p := ⟨w.heap.size, 0, none⟩) (Nat.le_refl _) _⟩, by rw [World.size_setCell]; have := hbW.size; omega⟩)
        generalize O1 ++ [x2] = O2 at *
        have cK := k9.cell
        have fK := k9.frozen
        clear hm hrow9 hb9 hko9 k9
        gi_wp2_with (first | (gi_at_call 48; refine (CallsIn.inRound l (callsIn_wide.2 (HNone.out _))).mono ?_; rintro e w' ⟨rfl, rfl⟩; obtain ⟨e0, e1, e2, e3, e4⟩ := (HX.out.1.below (gAl W (nwO x2))).cells; obtain ⟨f0, f1, f2, f3, f4⟩ := (HX.out.2.1.below (gAl W (nwO x2))).cells; have cL2 := (HX.out.2.2.alloc (nwO x2)).cell) | (refine ⟨trivial, ?_⟩; gi_at_call 48; refine (CallsIn.inRound l (callsIn_wide.2 (HNone.out _))).mono ?_; rintro e w' ⟨rfl, rfl⟩; obtain ⟨e0, e1, e2, e3, e4⟩ := (HX.out.1.below (gAl W (nwO x2))).cells; obtain ⟨f0, f1, f2, f3, f4⟩ := (HX.out.2.1.below (gAl W (nwO x2))).cells; have cL2 := (HX.out.2.2.alloc (nwO x2)).cell) | (gi_at_call 46; refine (CallsIn.inRound l (callsIn_wide.2 (HGone.out _))).mono ?_; rintro e w' ⟨rfl, rfl⟩; obtain ⟨i0, i1, i2, i3, i4⟩ := (HX.out.2.1.below (gNx (gAl W (nwO x2)) (gAl _ (nwO x2)))).cells; have cL3 := ((HX.out.2.2.alloc (nwO x2)).alloc (nwO x2)).cell) | (refine ⟨trivial, ?_⟩; gi_at_call 46; refine (CallsIn.inRound l (callsIn_wide.2 (HGone.out _))).mono ?_; rintro e w' ⟨rfl, rfl⟩; obtain ⟨i0, i1, i2, i3, i4⟩ := (HX.out.2.1.below (gNx (gAl W (nwO x2)) (gAl _ (nwO x2)))).cells; have cL3 := ((HX.out.2.2.alloc (nwO x2)).alloc (nwO x2)).cell) | (gi_at_builtin; refine wpListIn_append_runD rfl _ _ _ rfl _ _ rfl rfl hrun ?_))
        exact HFIN.out _ rfl
  case done =>
    rintro D ys W hD rfl ⟨⟨⟨a, c, r0, hbx, hrow, hr0⟩, hB⟩, hsz⟩ hK
    have HL : Hid (∃ O, O = mergL la lb) := Lib.hid ⟨_, rfl⟩
    obtain ⟨O, hO⟩ := HL.out
    have hO2 : (sbs la lb).flatMap mOne = O := hO.symm
    rw [hO2] at hbx hrow
    have cL := hbx.cell
    have HO := Lib.hid hO
    clear hO hO2
    gi_wp2
    refine ⟨by simp, .inl ⟨_, _, rfl, run_takeDeferred hK, ?_⟩⟩
    refine ⟨_, results_tmp rfl _ _ _, hB.trans (belowK_b (w := w) (Nat.le_refl _) W D _ _ (by omega) hK rfl rfl), a, c, by rw [HO.out]; rfl, ?_⟩
    rw [← HO.out]
    have hlen9 : (O.length + 1) * 40 ≤ 140737488355328 := by
      have h1 := flat_le (S := sbs la lb) mOne_len
      have h2 := sbs_len _ la lb (Nat.le_refl _)
      have h3 := HLEN.out
      have h4 : O.length = ((sbs la lb).flatMap mOne).length := by rw [HO.out]; rfl
      omega
    exact Sl.of_row (hrow.keep (fun cur hc => World.putObj_heap_other (fun e => by rw [e, hK] at hc; cases hc))) hlen9
  case stop =>
    rintro D c pre W _ _ h _
    exact h.elim
end Go.Proofs.Ytfnmfmelcghjbaa
