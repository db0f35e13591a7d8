/- Channel: nothing comes that was not put: the law. -/
import Derived.Test.YtldbmdalmhhpfaaCwK
import Derived.Test.YtldbmdalmhhpfaaCwJ
import Derived.Test.YtldbmdalmhhpfaaCwI
import Derived.Test.YtldbmdalmhhpfaaCqC
import Derived.Test.YtldbmdalmhhpfaaMpA
namespace Go.Proofs.Ytldbmdalmhhpfaa
open Go.RowKit Go.Lib Go.Ow Go.Cw Go.Cq
set_option linter.unusedVariables false
set_option linter.unusedSimpArgs false
set_option maxRecDepth 100000

theorem wp_look {op : Oper} {a : Act} {w : World} {K : Act → World → Prop} {Q : Exit → Act → World → Prop} (t : TypeId) (m x : Operand) (ho : op.op = .lookup t m x false) (b : Nat) (kv v : Value) (hm : a.eval m = .map (some b)) (hx : a.eval x = kv) (h : (Instr.lookup t (.map (some b)) kv false).run Try.prog w = .ok v w) (hk : K (a.put op.dst v) w) : op.wp Try.prog a w K Q := by
  unfold Oper.wp execOp
  simp only [ho, hm, hx, h, Sem.run_bind, Sem.run_pure, Result.andThen_ok]
  exact hk
theorem wp_entry {op : Oper} {a : Act} {w w' : World} {K : Act → World → Prop} {Q : Exit → Act → World → Prop} (t : TypeId) (m x : Operand) (ho : op.op = .mapEntry t m x) (b : Nat) (kv v : Value) (hm : a.eval m = .map (some b)) (hx : a.eval x = kv) (h : (Instr.mapEntry t (.map (some b)) kv).run Try.prog w = .ok v w') (hk : K (a.put op.dst v) w') : op.wp Try.prog a w K Q := by
  unfold Oper.wp execOp
  simp only [ho, hm, hx, h, Sem.run_bind, Sem.run_pure, Result.andThen_ok]
  exact hk
theorem wp_estore {op : Oper} {a : Act} {w w' : World} {K : Act → World → Prop} {Q : Exit → Act → World → Prop} (t : TypeId) (m s x : Operand) (ho : op.op = .entryStore t m s x) (b : Nat) (sv v : Value) (hm : a.eval m = .map (some b)) (hs : a.eval s = sv) (hx : a.eval x = v) (h : (Instr.entryStore t (.map (some b)) sv v).run Try.prog w = .ok () w') (hk : K (a.put op.dst undef) w') : op.wp Try.prog a w K Q := by
  unfold Oper.wp execOp
  simp only [ho, hm, hs, hx, h, Sem.run_bind, Sem.run_pure, Result.andThen_ok]
  exact hk
theorem bel2x (w : World) (o p : Obj) : Below w.heap.size w ((w.alloc o).alloc p) := ((Below.refl _ _).alloc (Nat.le_refl _) o).alloc (by simp) _
theorem Mo.more {w : World} {b n n' : Nat} {M : Gm → Int} (h : Mo w b n M) (hn : n ≤ n') : Mo w b n' M := by
  obtain ⟨D, hD, hM⟩ := h
  exact ⟨D, hD.mono hn, hM⟩
theorem gm_ok {g : Gm} (h : mayB g = true) : GmOk g := by
  obtain ⟨h1, h2, -, h4, h5, h6⟩ := mayB_iff.1 h
  unfold idB at h1 h2
  simp only [Bool.and_eq_true, decide_eq_true_eq] at h1 h2
  unfold GmOk maxLen
  omega
theorem zw_ok {g : Gm} (h : GmOk g) : GmOk (zw g) := by
  unfold GmOk zw at *
  simp only at *
  omega
/-- A flight, and a map of what was put. -/
structure No (B : Nat) (w0 w : World) (fb r : Nat) (l : List Gm) (mb n : Nat) (M : Gm → Int) : Prop where
  fl : Fl w fb r l
  mo : Mo w mb n M
  x1 : mb ≠ fb
  x2 : mb ≠ r
  lo : B ≤ fb ∧ B ≤ r ∧ B ≤ mb
  bel : Below B w0 w
  few : ∀ x, M x ≤ n
theorem No.below {B : Nat} {w0 w w' : World} {fb r : Nat} {l : List Gm} {mb n : Nat} {M : Gm → Int} (h : No B w0 w fb r l mb n M) (k : Below w.heap.size w w') : No B w0 w' fb r l mb n M :=
  ⟨h.fl.below k, h.mo.kept (k.block mb h.mo.lt), h.x1, h.x2, h.lo, h.bel.trans (k.mono (by have := h.mo.lt; have := h.lo; omega)), h.few⟩
theorem No.dn {B : Nat} {w0 w w' : World} {fb r : Nat} {l l' : List Gm} {mb n : Nat} {M : Gm → Int} (h : No B w0 w fb r l mb n M) (hd : Dn w fb r l' w') : ∃ r', No B w0 w' fb r' l' mb n M := by
  obtain ⟨r', hf, hr⟩ := hd.fl
  have hm := h.mo.lt
  have h1 := h.x1
  have h2 := h.x2
  have h3 := h.lo
  exact ⟨r', hf, h.mo.kept (hd.xr.block mb hm h1 h2), h1, by omega, by have := h.fl.low; omega, h.bel.trans (hd.xr.below h3.1 h3.2.1 (by omega)), h.few⟩
theorem No.xr {B : Nat} {w0 w w' : World} {fb r : Nat} {l : List Gm} {mb n n' : Nat} {M M' : Gm → Int} (h : No B w0 w fb r l mb n M) (k : Xr mb mb w w') (hm : Mo w' mb n' M') (hf : ∀ x, M' x ≤ n') : No B w0 w' fb r l mb n' M' := by
  have h1 := h.x1
  have h2 := h.x2
  have h3 := h.lo
  exact ⟨h.fl.keep k.size (k.block fb h.fl.low (Ne.symm h1) (Ne.symm h1)) (fun hr => k.block r hr (Ne.symm h2) (Ne.symm h2)), hm, h1, h2, h3, h.bel.trans (k.below h3.2.2 h3.2.2 (by have := h.mo.lt; omega)), hf⟩
set_option maxHeartbeats 16000000 in
theorem law_cnothing (L : List Ac) (a : Option Addr) (c : Nat) (w : World) (hin : ActsOk w L a) :
    Calls Try.prog 4 #[.slice a L.length c] w fun e w' => e = .returned (.bool true) ∧ Below w.heap.size w w' := by
  have HIN := Lib.hid (fun V (hV : Below w.heap.size w V) => hin.rows.keep rfl hV)
  have HL : Hid (L.length * 72 ≤ 140737488351232) := Lib.hid hin.n1
  have HOK : Hid (∀ x ∈ L, AcOk x) := Lib.hid hin.ok
  clear hin
  have hmm := @run_makeMap Try.prog
  go_enter Try.func4, Try.ntmps4
  go_wp2_with fail
  refine (mine_new w).mono ?_
  rintro e w1 ⟨fb, rfl, hm⟩
  have HM := Lib.hid hm
  clear hm
  go_wp2_with fail
  obtain ⟨mb, hmb⟩ : ∃ mb, mb = w1.heap.size := ⟨_, rfl⟩
  have HNO : Hid (∃ r, No w.heap.size w (w1.alloc (.map #[] 0)) fb r [] mb 0 (fun _ => 0)) := Lib.hid (by
    obtain ⟨p1, p2, r, p3, hf⟩ := HM.out
    have f1 := hf.low
    have f2 := hf.rl
    refine ⟨r, hf.below (gAl _ _), by rw [hmb]; exact Mo.new w1, by omega, by omega, ⟨p1, p3, by have := p2.size; omega⟩, gNx p2 (gAl _ _), fun x => by simp⟩)
  rw [← hmb]
  clear hmb HM hmm
  go_loopw [5] (fun ii wr => ∃ (j r : Nat) (l : List Gm) (M : Gm → Int), ii = .int .i64 (j : Int) ∧ j ≤ L.length ∧ No w.heap.size w wr fb r l mb j M ∧ Inv l M) (fun ii _ => L.length - (RowKit.intOf ii).toNat)
  case atStart =>
    obtain ⟨r, h⟩ := HNO.out
    exact ⟨0, r, [], _, rfl, Nat.zero_le _, h, Inv.nil⟩
  case round =>
    clear HNO
    obtain ⟨j, r, l, M, rfl, hj, hno, hinv⟩ := hrel
    obtain ⟨wo, hwo⟩ : ∃ wo, wo = wr := ⟨_, rfl⟩
    subst hwo
    have HN := Lib.hid hno
    have HI := Lib.hid hinv
    have HMP : Hid (∀ x, 0 ≤ M x ∧ M x ≤ j) := Lib.hid (fun x => ⟨by have := hinv x; omega, hno.few x⟩)
    clear hno hinv
    by_cases hlt : j < L.length
    · have hlti : (j : Int) < (L.length : Int) := by omega
      have hj0 : (0 : Int) ≤ (j : Int) := by omega
      have hjw : IntKind.i64.wrap ((j : Int) + 1) = (j : Int) + 1 := by rw [IntKind.wrap_i64]; have := HL.out; omega
      have HJ : Hid (j < 4611686018427387) := Lib.hid (by have := HL.out; omega)
      have HNX : Hid (∀ (r : Nat) (l : List Gm) (M : Gm → Int) (V : World), No w.heap.size w V fb r l mb (j + 1) M → Inv l M → (∃ (j' r : Nat) (l : List Gm) (M : Gm → Int), Value.int .i64 ((j : Int) + 1) = .int .i64 (j' : Int) ∧ j' ≤ L.length ∧ No w.heap.size w V fb r l mb j' M ∧ Inv l M) ∧ L.length - (RowKit.intOf (Value.int .i64 ((j : Int) + 1))).toNat < L.length - (RowKit.intOf (Value.int .i64 (j : Int))).toNat) := Lib.hid (fun r l M V h h2 => by
        refine ⟨⟨j + 1, r, l, M, congrArg (Value.int .i64) (by omega), by omega, h, h2⟩, ?_⟩
        show L.length - ((j : Int) + 1).toNat < L.length - (j : Int).toNat
        omega)
      rcases HIN.out wo HN.out.bel with h0 | ⟨b, o, rfl, hb, hc⟩
      · rw [h0] at hlt; exact absurd hlt (by simp)
      have hcj := hc j hlt
      have hok := HOK.out _ (List.getElem_mem hlt)
      generalize L[j] = ac at *
      obtain ⟨pt, ⟨fr, to_, bs, wt⟩, kd, i, kk⟩ := ac
      obtain ⟨c0, c1, c2, c3, c4, c5, c6, c7⟩ := hcj
      simp only at c0 c1 c2 c3 c4 c5 c6 c7
      have HG : Hid (GmOk ⟨fr, to_, bs, 0⟩) := Lib.hid (zw_ok hok.1)
      clear hc hlt hj hb hok
      have HSM : Hid (∀ V r l M, No w.heap.size w V fb r l mb j M → No w.heap.size w V fb r l mb (j + 1) M) := Lib.hid (fun V r l M h => ⟨h.fl, h.mo.more (Nat.le_succ _), h.x1, h.x2, h.lo, h.bel, fun x => by have := h.few x; omega⟩)
      cases pt with
      | true =>
        go_upto_region 11 with (fail)
        obtain ⟨sb, hsb⟩ : ∃ sb, sb = wo.heap.size := ⟨_, rfl⟩
        obtain ⟨V1, hV1⟩ : ∃ V1, V1 = wo.alloc (.cells #[.bool true, .int .i64 fr, .int .i64 to_, .string bs, .int .i64 0, .int .i64 kd, .int .i64 i, .int .i64 kk] 39) := ⟨_, rfl⟩
        rw [← hV1, ← hsb]
        have HN1 : Hid (No w.heap.size w V1 fb r l mb j M) := Lib.hid (by rw [hV1]; exact HN.out.below (gAl _ _))
        have HS1 : Hid (V1.rangeAt sb 1 [.int .i64 fr, .int .i64 to_, .string bs, .int .i64 0]) := Lib.hid (by
          rw [hV1, hsb]
          intro q u hq
          have hr := range_box0 wo [.bool true, .int .i64 fr, .int .i64 to_, .string bs, .int .i64 0, .int .i64 kd, .int .i64 i, .int .i64 kk] 39
          match q, hq with
          | 0, hq => exact hr 1 u hq
          | 1, hq => exact hr 2 u hq
          | 2, hq => exact hr 3 u hq
          | 3, hq => exact hr 4 u hq
          | q + 4, hq => simp at hq)
        have HKV : Hid (sb ≠ mb ∧ sb < V1.heap.size ∧ sb ≠ fb ∧ sb ≠ r) := Lib.hid (by
          have h1 := HN.out.mo.lt
          have h2 := HN.out.fl.low
          have h3 := HN.out.fl.rl
          rw [hV1, hsb]
          refine ⟨by omega, by simp, by omega, by omega⟩)
        clear hV1 hsb c0 c1 c2 c3 c4 c5 c6 c7
        have k0 := HS1.out 0 _ rfl
        have k1 := HS1.out 1 _ rfl
        have k2 := HS1.out 2 _ rfl
        have k3 := HS1.out 3 _ rfl
        go_wp2_with fail
        refine (put_any fr to_ bs 0 _ fb r l HN1.out.fl).mono ?_
        rintro e w2 ⟨rfl, hd⟩
        have HD := Lib.hid hd
        clear hd k0 k1 k2 k3
        by_cases hz : putE l ⟨fr, to_, bs, 0⟩ = 0
        · have hz2 : (putE l ⟨fr, to_, bs, 0⟩ == 0) = true := by simpa using hz
          have HPL : Hid (putL l ⟨fr, to_, bs, 0⟩ = l ++ [⟨fr, to_, bs, 0⟩]) := Lib.hid (by unfold putL; rw [if_pos hz])
          clear hz
          go_upto_region 12 with (fail)
          clear hz2
          have HE : Hid (∃ r', No w.heap.size w w2 fb r' (l ++ [⟨fr, to_, bs, 0⟩]) mb j M) := Lib.hid (by
            have := HN1.out.dn HD.out
            rw [HPL.out] at this
            exact this)
          have HS0 : Hid (w2.rangeAt sb 1 [.int .i64 fr, .int .i64 to_, .string bs, .int .i64 0]) := Lib.hid (fun q u hq => (World.cell?_of_block (a := ⟨sb, 1 + q, none⟩) (HD.out.xr.block sb HKV.out.2.1 HKV.out.2.2.1 HKV.out.2.2.2)).trans (HS1.out q u hq))
          have HKB : Hid (sb ≠ mb ∧ sb < w2.heap.size) := Lib.hid ⟨HKV.out.1, Nat.lt_of_lt_of_le HKV.out.2.1 HD.out.xr.size⟩
          have HWF : Hid ((Lit.int .i64 (M ⟨fr, to_, bs, 0⟩ + 1)).wf = true) := Lib.hid (by have := HMP.out ⟨fr, to_, bs, 0⟩; have := HJ.out; simp [Lit.wf, IntKind.min, IntKind.max, IntKind.signed, IntKind.bits]; omega)
          have hwr : IntKind.i64.wrap (M ⟨fr, to_, bs, 0⟩ + 1) = M ⟨fr, to_, bs, 0⟩ + 1 := by rw [IntKind.wrap_i64]; have := HMP.out ⟨fr, to_, bs, 0⟩; have := HJ.out; omega
          obtain ⟨r2, hno2⟩ := HE.out
          have HN0 := Lib.hid hno2
          clear hno2 HE
          obtain ⟨V0, hV0⟩ : ∃ V0, V0 = w2 := ⟨_, rfl⟩
          rw [← hV0]
          rw [← hV0] at HN0 HS0 HKB
          clear hV0 HD HS1 HN1 HKV
          refine wp_region_held_drew (S := fun V => V.rangeAt sb 1 [.int .i64 fr, .int .i64 to_, .string bs, .int .i64 0]) (by kernel_rfl) ((World.rangeAt_drew _ _ _ _).2 HS0.out) (fun hH => ?_)
          clear hH
          have HN1 := Lib.hid (HN0.out.below (Below.refl _ _).drew)
          have hs := (World.rangeAt_drew _ _ _ _).2 HS0.out
          have hkb : sb < V0.drew.heap.size := HKB.out.2
          clear HN0 HS0
          generalize V0.drew = V1 at *
          obtain ⟨stp, V2, hent, hmo2, hx2, hsto⟩ := HN1.out.mo.entry (by have := HJ.out; unfold maxLen; omega) ⟨fr, to_, bs, 0⟩ HG.out
          have hl1 := (HN1.out.mo.look ⟨fr, to_, bs, 0⟩ HG.out).1
          have hl2 := (hmo2.look ⟨fr, to_, bs, 0⟩ HG.out).1
          obtain ⟨V3, hst3, hmo3, hx3⟩ := hsto (M ⟨fr, to_, bs, 0⟩ + 1) HWF.out
          have hs2 : V2.rangeAt sb 1 [.int .i64 fr, .int .i64 to_, .string bs, .int .i64 0] := fun q u hq => (World.cell?_of_block (a := ⟨sb, 1 + q, none⟩) (hx2.block sb hkb HKB.out.1 HKB.out.1)).trans (hs q u hq)
          have hs3 : V3.rangeAt sb 1 [.int .i64 fr, .int .i64 to_, .string bs, .int .i64 0] := fun q u hq => (World.cell?_of_block (a := ⟨sb, 1 + q, none⟩) (hx3.block sb (Nat.lt_of_lt_of_le hkb hx2.size) HKB.out.1 HKB.out.1)).trans (hs2 q u hq)
          simp only [gmV] at hent hl1 hl2
          refine tk 0 (by assumption) rfl (by kernel_rfl) (fun _ _ _ h => h) (fun V hV => by go_simp; try with_reducible rfl) ?_
          try simp only [Act.put, sqA, sqB, sqC, sqD, sqE, sqF]
          refine tk 1 (by assumption) rfl (by kernel_rfl) (fun _ _ _ h => h) (fun V hV => by go_simp; try with_reducible rfl) ?_
          try simp only [Act.put, sqA, sqB, sqC, sqD, sqE, sqF]
          refine tk 2 (by assumption) rfl (by kernel_rfl) (fun _ _ _ h => h) (tk_load (S := fun V => V.rangeAt sb 1 [.int .i64 fr, .int .i64 to_, .string bs, .int .i64 0]) 35 (.tmp 35) rfl sb (1) rfl [.int .i64 fr, .int .i64 to_, .string bs, .int .i64 0] _ (fun V hV => hV) Try.underlying35 (by rfl) (by kernel_rfl)) ?_
          try simp only [Act.put, sqA, sqB, sqC, sqD, sqE, sqF]
          refine wpAnyH_ready (rs := [3, 5]) (by kernel_rfl) (by simp) ?_
          refine AllReadyH.cons (o := _) rfl (fun K hK => ?_) (AllReadyH.cons (o := _) rfl (fun K hK => ?_) (AllReadyH.nil))
          · rw [if_pos (by rfl)]
            first | refine wp_look 42 (.tmp 34) (.tmp 36) rfl mb (.agg #[.int .i64 fr, .int .i64 to_, .string bs, .int .i64 0]) (.int .i64 (M ⟨fr, to_, bs, 0⟩)) rfl rfl hl1 ?_ | refine wp_look 42 (.tmp 34) (.tmp 36) rfl mb (.agg #[.int .i64 fr, .int .i64 to_, .string bs, .int .i64 0]) (.int .i64 (M ⟨fr, to_, bs, 0⟩)) rfl rfl hl2 ?_
            refine hK.out _ _ (by assumption) (fun hH => ?_)
            clear hK K hH
            try simp only [Act.put, sqA, sqB, sqC, sqD, sqE, sqF]
            refine tk 4 (by assumption) rfl (by kernel_rfl) (fun _ _ _ h => h) (fun V hV => by go_simp; try with_reducible rfl) ?_
            try simp only [Act.put, sqA, sqB, sqC, sqD, sqE, sqF]
            refine wpAnyH_ready (rs := [5]) (by kernel_rfl) (by simp) ?_
            refine AllReadyH.cons (o := _) rfl (fun K hK => ?_) AllReadyH.nil
            rw [if_pos (by rfl)]
            refine wp_entry 42 (.tmp 34) (.tmp 36) rfl mb (.agg #[.int .i64 fr, .int .i64 to_, .string bs, .int .i64 0]) _ rfl rfl hent ?_
            refine hK.out _ _ hs2 (fun hH => ?_)
            clear hK K hH
            try simp only [Act.put, sqA, sqB, sqC, sqD, sqE, sqF]
            refine tk 6 (by assumption) rfl (by kernel_rfl) (fun _ _ _ h => h) (fun V hV => by go_simp; try with_reducible rfl) ?_
            try simp only [Act.put, sqA, sqB, sqC, sqD, sqE, sqF]
            refine wpAnyH_ready (rs := [7]) (by kernel_rfl) (by simp) ?_
            refine AllReadyH.cons (o := _) rfl (fun K hK => ?_) AllReadyH.nil
            rw [if_pos (by rfl)]
            refine wp_estore 42 (.tmp 34) (.tmp 40) (.tmp 38) rfl mb (goInt stp) (.int .i64 (M ⟨fr, to_, bs, 0⟩ + 1)) rfl rfl rfl hst3 ?_
            refine hK.out _ _ hs3 (fun hH => ?_)
            clear hK K hH
            try simp only [Act.put, sqA, sqB, sqC, sqD, sqE, sqF]
            refine wpAnyH_done (by kernel_rfl) ?_ _
            have HN3 := Lib.hid ((HN1.out.xr hx2 hmo2 (fun x => by have := HN1.out.few x; omega)).xr hx3 (hmo3.more (Nat.le_refl _)) (fun x => by have := HN1.out.few x; have := HN1.out.few ⟨fr, to_, bs, 0⟩; split <;> omega))
            clear hs hs2 hs3 hkb hent hl1 hl2 hst3 hmo2 hmo3 hx2 hx3 hsto
            go_wp2_with fail
            exact HNX.out _ _ _ _ HN3.out (HI.out.put ⟨fr, to_, bs, 0⟩)
          · rw [if_pos (by rfl)]
            refine wp_entry 42 (.tmp 34) (.tmp 36) rfl mb (.agg #[.int .i64 fr, .int .i64 to_, .string bs, .int .i64 0]) _ rfl rfl hent ?_
            refine hK.out _ _ hs2 (fun hH => ?_)
            clear hK K hH
            try simp only [Act.put, sqA, sqB, sqC, sqD, sqE, sqF]
            refine tk 6 (by assumption) rfl (by kernel_rfl) (fun _ _ _ h => h) (fun V hV => by go_simp; try with_reducible rfl) ?_
            try simp only [Act.put, sqA, sqB, sqC, sqD, sqE, sqF]
            refine wpAnyH_ready (rs := [3]) (by kernel_rfl) (by simp) ?_
            refine AllReadyH.cons (o := _) rfl (fun K hK => ?_) AllReadyH.nil
            rw [if_pos (by rfl)]
            first | refine wp_look 42 (.tmp 34) (.tmp 36) rfl mb (.agg #[.int .i64 fr, .int .i64 to_, .string bs, .int .i64 0]) (.int .i64 (M ⟨fr, to_, bs, 0⟩)) rfl rfl hl1 ?_ | refine wp_look 42 (.tmp 34) (.tmp 36) rfl mb (.agg #[.int .i64 fr, .int .i64 to_, .string bs, .int .i64 0]) (.int .i64 (M ⟨fr, to_, bs, 0⟩)) rfl rfl hl2 ?_
            refine hK.out _ _ (by assumption) (fun hH => ?_)
            clear hK K hH
            try simp only [Act.put, sqA, sqB, sqC, sqD, sqE, sqF]
            refine tk 4 (by assumption) rfl (by kernel_rfl) (fun _ _ _ h => h) (fun V hV => by go_simp; try with_reducible rfl) ?_
            try simp only [Act.put, sqA, sqB, sqC, sqD, sqE, sqF]
            refine wpAnyH_ready (rs := [7]) (by kernel_rfl) (by simp) ?_
            refine AllReadyH.cons (o := _) rfl (fun K hK => ?_) AllReadyH.nil
            rw [if_pos (by rfl)]
            refine wp_estore 42 (.tmp 34) (.tmp 40) (.tmp 38) rfl mb (goInt stp) (.int .i64 (M ⟨fr, to_, bs, 0⟩ + 1)) rfl rfl rfl hst3 ?_
            refine hK.out _ _ hs3 (fun hH => ?_)
            clear hK K hH
            try simp only [Act.put, sqA, sqB, sqC, sqD, sqE, sqF]
            refine wpAnyH_done (by kernel_rfl) ?_ _
            have HN3 := Lib.hid ((HN1.out.xr hx2 hmo2 (fun x => by have := HN1.out.few x; omega)).xr hx3 (hmo3.more (Nat.le_refl _)) (fun x => by have := HN1.out.few x; have := HN1.out.few ⟨fr, to_, bs, 0⟩; split <;> omega))
            clear hs hs2 hs3 hkb hent hl1 hl2 hst3 hmo2 hmo3 hx2 hx3 hsto
            go_wp2_with fail
            exact HNX.out _ _ _ _ HN3.out (HI.out.put ⟨fr, to_, bs, 0⟩)
        · have hz2 : (putE l ⟨fr, to_, bs, 0⟩ == 0) = false := by simpa using hz
          have HPL : Hid (putL l ⟨fr, to_, bs, 0⟩ = l) := Lib.hid (by unfold putL; rw [if_neg hz])
          have HE : Hid (∃ r', No w.heap.size w w2 fb r' l mb j M) := Lib.hid (by
            have := HN1.out.dn HD.out
            rw [HPL.out] at this
            exact this)
          clear hz
          go_wp2_with fail
          obtain ⟨r2, hno2⟩ := HE.out
          exact HNX.out _ _ _ _ (HSM.out _ _ _ _ hno2) HI.out
      | false =>
        go_upto_region 13 with (fail)
        obtain ⟨sb, hsb⟩ : ∃ sb, sb = wo.heap.size := ⟨_, rfl⟩
        obtain ⟨V1, hV1⟩ : ∃ V1, V1 = wo.alloc (.cells #[.bool false, .int .i64 fr, .int .i64 to_, .string bs, .int .i64 wt, .int .i64 kd, .int .i64 i, .int .i64 kk] 39) := ⟨_, rfl⟩
        rw [← hV1, ← hsb]
        have HN1 : Hid (No w.heap.size w V1 fb r l mb j M) := Lib.hid (by rw [hV1]; exact HN.out.below (gAl _ _))
        have HS1 : Hid (∀ V, Below V1.heap.size V1 V → V.rangeAt sb 0 [.bool false, .int .i64 fr, .int .i64 to_, .string bs, .int .i64 wt, .int .i64 kd, .int .i64 i, .int .i64 kk]) := Lib.hid (fun V hV q u hq => (World.cell?_of_block (a := ⟨sb, 0 + q, none⟩) (hV.block sb (by rw [hV1, hsb]; simp))).trans (by
          rw [hV1, hsb]
          exact range_box0 wo [.bool false, .int .i64 fr, .int .i64 to_, .string bs, .int .i64 wt, .int .i64 kd, .int .i64 i, .int .i64 kk] 39 q u hq))
        have HKV : Hid (sb < V1.heap.size ∧ sb ≠ fb ∧ sb ≠ r) := Lib.hid (by
          have h2 := HN.out.fl.low
          have h3 := HN.out.fl.rl
          rw [hV1, hsb]
          refine ⟨by simp, by omega, by omega⟩)
        clear hV1 hsb c0 c1 c2 c3 c4 c5 c6 c7
        go_wp2_with fail
        refine (all_any _ fb r l HN1.out.fl).mono ?_
        rintro e w2 ⟨hb2, v2, r4, rfl, hr4, hrow⟩
        obtain ⟨pa, pc, rfl⟩ := hrow.slice
        have HB2 := Lib.hid hb2
        have HRW := Lib.hid hrow
        have HR4 : Hid (V1.heap.size ≤ r4) := Lib.hid hr4
        have HN2 := Lib.hid (HN1.out.below hb2)
        clear hb2 hr4 hrow
        have k5 := HS1.out w2 HB2.out 5 _ rfl
        have k6 := HS1.out w2 HB2.out 6 _ rfl
        have k7 := HS1.out w2 HB2.out 7 _ rfl
        go_wp2_with fail
        have HDO := Lib.hid (do_any kd i kk w2 fb r l HN2.out.fl)
        obtain ⟨xa, xb, xs, xt, hgm⟩ := gm_parts (doG l kd i kk)
        have HGM := Lib.hid hgm
        rw [hgm, show gmC ⟨xa, xb, xs, xt⟩ = [.int .i64 xa, .int .i64 xb, .string xs, .int .i64 xt] from rfl] at HDO
        clear hgm k5 k6 k7
        refine HDO.out.mono ?_
        rintro e w3 ⟨rfl, hd⟩
        have HD := Lib.hid hd
        have HNE : Hid (∃ r', No w.heap.size w w3 fb r' (doL l kd i kk) mb j M) := Lib.hid (HN2.out.dn hd)
        have HS3 : Hid (w3.rangeAt sb 0 [.bool false, .int .i64 fr, .int .i64 to_, .string bs, .int .i64 wt, .int .i64 kd, .int .i64 i, .int .i64 kk] ∧ sb < w3.heap.size) := Lib.hid (by
          have h1 := HKV.out
          have h2 := HB2.out.size
          refine ⟨fun q u hq => (World.cell?_of_block (a := ⟨sb, 0 + q, none⟩) (hd.xr.block sb (by omega) h1.2.1 h1.2.2)).trans (HS1.out w2 HB2.out q u hq), ?_⟩
          have := hd.xr.size
          omega)
        clear hd HDO
        have m5 := HS3.out.1 5 _ rfl
        have hsl := HS3.out.2
        by_cases hE : doE l kd i kk = 0
        · have hE2 : (doE l kd i kk != 0) = false := by simpa using hE
          by_cases h3 : kd = 3
          · subst h3
            have hb : hasB l i = true := by
              unfold doE at hE
              simp at hE
              by_cases hb : hasB l i = true
              · exact hb
              · simp [hb] at hE
            have HDL : Hid (doL l 3 i kk = l ++ [gat l i]) := Lib.hid (by unfold doL; rw [if_neg (by simpa using hE)]; simp)
            obtain ⟨hi, hin, hg⟩ := gat_get hb
            obtain ⟨n, rfl⟩ : ∃ n : Nat, i = (n : Int) := ⟨i.toNat, hin.symm⟩
            have hi2 : n < l.length := by simpa using hi
            have hg2 : gat l (n : Int) = l[n] := by simpa using hg
            clear hi hin hg hb hE
            obtain ⟨o4, cap4, e4, -, hlow4, -, hra4, -, -⟩ := HRW.out.at (by omega)
            simp only [Value.slice.injEq, true_and] at e4
            obtain ⟨rfl, rfl⟩ := e4
            obtain ⟨g0, g1, g2, g3⟩ := gm_cells hra4 hi2
            have hok := gm_ok (HN2.out.fl.good.may _ (List.getElem_mem hi2))
            obtain ⟨za, zb, zs, zt, en⟩ := gm_parts l[n]
            rw [en] at g0 g1 g2 g3 hok hg2
            simp only at g0 g1 g2 g3
            have HGN : Hid (gat l (n : Int) = ⟨za, zb, zs, zt⟩) := Lib.hid hg2
            have HG9 : Hid (GmOk ⟨za, zb, zs, 0⟩) := Lib.hid (zw_ok hok)
            have hr3 : w3.heap[r4]? = w2.heap[r4]? := HD.out.xr.block r4 hlow4 (by have := HR4.out; have := HN1.out.fl.low; omega) (by have := HR4.out; have := HN1.out.fl.rl; omega)
            have q0 := (World.cell?_of_block (a := ⟨r4, o4 + n * 4, none⟩) hr3).trans g0
            have q1 := (World.cell?_of_block (a := ⟨r4, o4 + n * 4 + 1, none⟩) hr3).trans g1
            have q2 := (World.cell?_of_block (a := ⟨r4, o4 + n * 4 + 2, none⟩) hr3).trans g2
            have q3 := (World.cell?_of_block (a := ⟨r4, o4 + n * 4 + 3, none⟩) hr3).trans g3
            have hr5 : r4 < w3.heap.size := Nat.lt_of_lt_of_le hlow4 HD.out.xr.size
            have hn0 : (0 : Int) ≤ (n : Int) := by omega
            have hnl : (n : Int) < (l.length : Int) := by omega
            have m6 := HS3.out.1 6 _ rfl
            clear g0 g1 g2 g3 hok hg2 hra4 hlow4 hi2 en hr3
            go_upto_region 20 with (fail)
            obtain ⟨V0, hV0⟩ : ∃ V0, V0 = (w3.alloc (.cells #[.int .i64 xa, .int .i64 xb, .string xs, .int .i64 xt] 35)).alloc (.cells #[.int .i64 za, .int .i64 zb, .string zs, .int .i64 0] 35) := ⟨_, rfl⟩
            obtain ⟨xk, hxk⟩ : ∃ xk, xk = w3.heap.size + 1 := ⟨_, rfl⟩
            rw [← hV0, ← hxk]
            obtain ⟨r2, hno2⟩ := HNE.out
            rw [HDL.out] at hno2
            have HN0 : Hid (No w.heap.size w V0 fb r2 (l ++ [gat l (n : Int)]) mb j M) := Lib.hid (by rw [hV0]; exact hno2.below (bel2x w3 _ _))
            have HS0 : Hid (V0.rangeAt xk 0 [.int .i64 za, .int .i64 zb, .string zs, .int .i64 0]) := Lib.hid (by
              have h := range_box0 (w3.alloc (.cells #[.int .i64 xa, .int .i64 xb, .string xs, .int .i64 xt] 35)) [.int .i64 za, .int .i64 zb, .string zs, .int .i64 0] 35
              rw [World.size_alloc] at h
              rw [hV0, hxk]
              exact h)
            have HKB : Hid (xk ≠ mb ∧ xk < V0.heap.size) := Lib.hid (by
              have h1 := hno2.mo.lt
              rw [hV0, hxk]
              refine ⟨by omega, by simp⟩)
            have HWF : Hid ((Lit.int .i64 (M ⟨za, zb, zs, 0⟩ + 1)).wf = true) := Lib.hid (by have := HMP.out ⟨za, zb, zs, 0⟩; have := HJ.out; simp [Lit.wf, IntKind.min, IntKind.max, IntKind.signed, IntKind.bits]; omega)
            have hwr : IntKind.i64.wrap (M ⟨za, zb, zs, 0⟩ + 1) = M ⟨za, zb, zs, 0⟩ + 1 := by rw [IntKind.wrap_i64]; have := HMP.out ⟨za, zb, zs, 0⟩; have := HJ.out; omega
            clear hV0 hxk hno2 q0 q1 q2 q3 hr5 m6 m5 HG
            have HG := HG9
            refine wp_region_held_drew (S := fun V => V.rangeAt xk 0 [.int .i64 za, .int .i64 zb, .string zs, .int .i64 0]) (by kernel_rfl) ((World.rangeAt_drew _ _ _ _).2 HS0.out) (fun hH => ?_)
            clear hH
            have HN1 := Lib.hid (HN0.out.below (Below.refl _ _).drew)
            have hs := (World.rangeAt_drew _ _ _ _).2 HS0.out
            have hkb : xk < V0.drew.heap.size := HKB.out.2
            clear HN0 HS0
            generalize V0.drew = V1 at *
            obtain ⟨stp, V2, hent, hmo2, hx2, hsto⟩ := HN1.out.mo.entry (by have := HJ.out; unfold maxLen; omega) ⟨za, zb, zs, 0⟩ HG.out
            have hl1 := (HN1.out.mo.look ⟨za, zb, zs, 0⟩ HG.out).1
            have hl2 := (hmo2.look ⟨za, zb, zs, 0⟩ HG.out).1
            obtain ⟨V3, hst3, hmo3, hx3⟩ := hsto (M ⟨za, zb, zs, 0⟩ + 1) HWF.out
            have hs2 : V2.rangeAt xk 0 [.int .i64 za, .int .i64 zb, .string zs, .int .i64 0] := fun q u hq => (World.cell?_of_block (a := ⟨xk, 0 + q, none⟩) (hx2.block xk hkb HKB.out.1 HKB.out.1)).trans (hs q u hq)
            have hs3 : V3.rangeAt xk 0 [.int .i64 za, .int .i64 zb, .string zs, .int .i64 0] := fun q u hq => (World.cell?_of_block (a := ⟨xk, 0 + q, none⟩) (hx3.block xk (Nat.lt_of_lt_of_le hkb hx2.size) HKB.out.1 HKB.out.1)).trans (hs2 q u hq)
            simp only [gmV] at hent hl1 hl2
            refine tk 0 (by assumption) rfl (by kernel_rfl) (fun _ _ _ h => h) (fun V hV => by go_simp; try with_reducible rfl) ?_
            try simp only [Act.put, sqA, sqB, sqC, sqD, sqE, sqF]
            refine tk 1 (by assumption) rfl (by kernel_rfl) (fun _ _ _ h => h) (tk_load (S := fun V => V.rangeAt xk 0 [.int .i64 za, .int .i64 zb, .string zs, .int .i64 0]) 35 (.tmp 10) rfl xk (0) rfl [.int .i64 za, .int .i64 zb, .string zs, .int .i64 0] _ (fun V hV => hV) Try.underlying35 (by rfl) (by kernel_rfl)) ?_
            try simp only [Act.put, sqA, sqB, sqC, sqD, sqE, sqF]
            refine wpAnyH_ready (rs := [2, 4]) (by kernel_rfl) (by simp) ?_
            refine AllReadyH.cons (o := _) rfl (fun K hK => ?_) (AllReadyH.cons (o := _) rfl (fun K hK => ?_) (AllReadyH.nil))
            · rw [if_pos (by rfl)]
              first | refine wp_look 42 (.tmp 64) (.tmp 65) rfl mb (.agg #[.int .i64 za, .int .i64 zb, .string zs, .int .i64 0]) (.int .i64 (M ⟨za, zb, zs, 0⟩)) rfl rfl hl1 ?_ | refine wp_look 42 (.tmp 64) (.tmp 65) rfl mb (.agg #[.int .i64 za, .int .i64 zb, .string zs, .int .i64 0]) (.int .i64 (M ⟨za, zb, zs, 0⟩)) rfl rfl hl2 ?_
              refine hK.out _ _ (by assumption) (fun hH => ?_)
              clear hK K hH
              try simp only [Act.put, sqA, sqB, sqC, sqD, sqE, sqF]
              refine tk 3 (by assumption) rfl (by kernel_rfl) (fun _ _ _ h => h) (fun V hV => by go_simp; try with_reducible rfl) ?_
              try simp only [Act.put, sqA, sqB, sqC, sqD, sqE, sqF]
              refine wpAnyH_ready (rs := [4]) (by kernel_rfl) (by simp) ?_
              refine AllReadyH.cons (o := _) rfl (fun K hK => ?_) AllReadyH.nil
              rw [if_pos (by rfl)]
              refine wp_entry 42 (.tmp 64) (.tmp 65) rfl mb (.agg #[.int .i64 za, .int .i64 zb, .string zs, .int .i64 0]) _ rfl rfl hent ?_
              refine hK.out _ _ hs2 (fun hH => ?_)
              clear hK K hH
              try simp only [Act.put, sqA, sqB, sqC, sqD, sqE, sqF]
              refine tk 5 (by assumption) rfl (by kernel_rfl) (fun _ _ _ h => h) (fun V hV => by go_simp; try with_reducible rfl) ?_
              try simp only [Act.put, sqA, sqB, sqC, sqD, sqE, sqF]
              refine wpAnyH_ready (rs := [6]) (by kernel_rfl) (by simp) ?_
              refine AllReadyH.cons (o := _) rfl (fun K hK => ?_) AllReadyH.nil
              rw [if_pos (by rfl)]
              refine wp_estore 42 (.tmp 64) (.tmp 69) (.tmp 67) rfl mb (goInt stp) (.int .i64 (M ⟨za, zb, zs, 0⟩ + 1)) rfl rfl rfl hst3 ?_
              refine hK.out _ _ hs3 (fun hH => ?_)
              clear hK K hH
              try simp only [Act.put, sqA, sqB, sqC, sqD, sqE, sqF]
              refine wpAnyH_done (by kernel_rfl) ?_ _
              have HN3 := Lib.hid ((HN1.out.xr hx2 hmo2 (fun x => by have := HN1.out.few x; omega)).xr hx3 (hmo3.more (Nat.le_refl _)) (fun x => by have := HN1.out.few x; have := HN1.out.few ⟨za, zb, zs, 0⟩; split <;> omega))
              clear hs hs2 hs3 hkb hent hl1 hl2 hst3 hmo2 hmo3 hx2 hx3 hsto
              go_wp2_with fail
              have HP := HI.out.put (gat l (n : Int))
              rw [show zw (gat l (n : Int)) = ⟨za, zb, zs, 0⟩ from by rw [HGN.out]; rfl] at HP
              exact HNX.out _ _ _ _ HN3.out HP
            · rw [if_pos (by rfl)]
              refine wp_entry 42 (.tmp 64) (.tmp 65) rfl mb (.agg #[.int .i64 za, .int .i64 zb, .string zs, .int .i64 0]) _ rfl rfl hent ?_
              refine hK.out _ _ hs2 (fun hH => ?_)
              clear hK K hH
              try simp only [Act.put, sqA, sqB, sqC, sqD, sqE, sqF]
              refine tk 5 (by assumption) rfl (by kernel_rfl) (fun _ _ _ h => h) (fun V hV => by go_simp; try with_reducible rfl) ?_
              try simp only [Act.put, sqA, sqB, sqC, sqD, sqE, sqF]
              refine wpAnyH_ready (rs := [2]) (by kernel_rfl) (by simp) ?_
              refine AllReadyH.cons (o := _) rfl (fun K hK => ?_) AllReadyH.nil
              rw [if_pos (by rfl)]
              first | refine wp_look 42 (.tmp 64) (.tmp 65) rfl mb (.agg #[.int .i64 za, .int .i64 zb, .string zs, .int .i64 0]) (.int .i64 (M ⟨za, zb, zs, 0⟩)) rfl rfl hl1 ?_ | refine wp_look 42 (.tmp 64) (.tmp 65) rfl mb (.agg #[.int .i64 za, .int .i64 zb, .string zs, .int .i64 0]) (.int .i64 (M ⟨za, zb, zs, 0⟩)) rfl rfl hl2 ?_
              refine hK.out _ _ (by assumption) (fun hH => ?_)
              clear hK K hH
              try simp only [Act.put, sqA, sqB, sqC, sqD, sqE, sqF]
              refine tk 3 (by assumption) rfl (by kernel_rfl) (fun _ _ _ h => h) (fun V hV => by go_simp; try with_reducible rfl) ?_
              try simp only [Act.put, sqA, sqB, sqC, sqD, sqE, sqF]
              refine wpAnyH_ready (rs := [6]) (by kernel_rfl) (by simp) ?_
              refine AllReadyH.cons (o := _) rfl (fun K hK => ?_) AllReadyH.nil
              rw [if_pos (by rfl)]
              refine wp_estore 42 (.tmp 64) (.tmp 69) (.tmp 67) rfl mb (goInt stp) (.int .i64 (M ⟨za, zb, zs, 0⟩ + 1)) rfl rfl rfl hst3 ?_
              refine hK.out _ _ hs3 (fun hH => ?_)
              clear hK K hH
              try simp only [Act.put, sqA, sqB, sqC, sqD, sqE, sqF]
              refine wpAnyH_done (by kernel_rfl) ?_ _
              have HN3 := Lib.hid ((HN1.out.xr hx2 hmo2 (fun x => by have := HN1.out.few x; omega)).xr hx3 (hmo3.more (Nat.le_refl _)) (fun x => by have := HN1.out.few x; have := HN1.out.few ⟨za, zb, zs, 0⟩; split <;> omega))
              clear hs hs2 hs3 hkb hent hl1 hl2 hst3 hmo2 hmo3 hx2 hx3 hsto
              go_wp2_with fail
              have HP := HI.out.put (gat l (n : Int))
              rw [show zw (gat l (n : Int)) = ⟨za, zb, zs, 0⟩ from by rw [HGN.out]; rfl] at HP
              exact HNX.out _ _ _ _ HN3.out HP
          by_cases h1 : kd = 1
          · subst h1
            have hT : takeE l i = 0 := by simpa [doE] using hE
            have hb : hasB l i = true ∧ (gat l i).wt = 0 := by
              unfold takeE at hT
              by_cases hb : hasB l i = true
              · rw [if_pos hb] at hT
                by_cases hw : (gat l i).wt = 0
                · exact ⟨hb, hw⟩
                · simp [hw] at hT
              · simp [hb] at hT
            have hGe : doG l 1 i kk = gat l i := by unfold doG takeG; simp [hT]
            obtain ⟨hi, hin, hg⟩ := gat_get hb.1
            have HDL : Hid (doL l 1 i kk = l.eraseIdx i.toNat) := Lib.hid (by unfold doL; rw [if_neg (by simpa using hE), if_pos rfl])
            have hgx : l[i.toNat] = ⟨xa, xb, xs, xt⟩ := by rw [← hg, ← hGe]; exact HGM.out
            have hxt : xt = 0 := by
              have := hb.2
              rw [hg, hgx] at this
              exact this
            have HTK := Lib.hid (HI.out.take hi)
            have hok := gm_ok (HN2.out.fl.good.may _ (List.getElem_mem hi))
            rw [hgx] at HTK hok
            subst hxt
            rw [show zw ⟨xa, xb, xs, 0⟩ = ⟨xa, xb, xs, 0⟩ from rfl] at HTK
            have HG9 : Hid (GmOk ⟨xa, xb, xs, 0⟩) := Lib.hid hok
            have hq0 : (M ⟨xa, xb, xs, 0⟩ == 0) = false := by have := HTK.out.1; simp; omega
            obtain ⟨V0, hV0⟩ : ∃ V0, V0 = w3.alloc (.cells #[.int .i64 xa, .int .i64 xb, .string xs, .int .i64 0] 35) := ⟨_, rfl⟩
            obtain ⟨r2, hno2⟩ := HNE.out
            rw [HDL.out] at hno2
            have HN0 : Hid (No w.heap.size w V0 fb r2 (l.eraseIdx i.toNat) mb j M) := Lib.hid (by rw [hV0]; exact hno2.below (gAl w3 _))
            have hl := (HN0.out.mo.look ⟨xa, xb, xs, 0⟩ HG9.out).1
            simp only [gmV] at hl
            rw [hV0] at hl
            have HV0 := Lib.hid hV0
            have HMB : Hid (mb < w3.heap.size) := Lib.hid hno2.mo.lt
            clear hV0 hno2 hT hb hGe hi hin hg hgx hok hE
            go_upto_region 24 with (fail)
            clear hl m5
            obtain ⟨xk, hxk⟩ : ∃ xk, xk = w3.heap.size := ⟨_, rfl⟩
            rw [← HV0.out, ← hxk]
            have HS0 : Hid (V0.rangeAt xk 0 [.int .i64 xa, .int .i64 xb, .string xs, .int .i64 0]) := Lib.hid (by
              rw [HV0.out, hxk]
              exact range_box0 w3 [.int .i64 xa, .int .i64 xb, .string xs, .int .i64 0] 35)
            have HKB : Hid (xk ≠ mb ∧ xk < V0.heap.size) := Lib.hid (by
              have h1 := HMB.out
              rw [HV0.out, hxk]
              refine ⟨by omega, by simp⟩)
            have HWF : Hid ((Lit.int .i64 (M ⟨xa, xb, xs, 0⟩ - 1)).wf = true) := Lib.hid (by have := HMP.out ⟨xa, xb, xs, 0⟩; have := HJ.out; simp [Lit.wf, IntKind.min, IntKind.max, IntKind.signed, IntKind.bits]; omega)
            have hwr : IntKind.i64.wrap (M ⟨xa, xb, xs, 0⟩ - 1) = M ⟨xa, xb, xs, 0⟩ - 1 := by rw [IntKind.wrap_i64]; have := HMP.out ⟨xa, xb, xs, 0⟩; have := HJ.out; omega
            clear hxk HV0 hq0 HG
            have HG := HG9
            refine wp_region_held_drew (S := fun V => V.rangeAt xk 0 [.int .i64 xa, .int .i64 xb, .string xs, .int .i64 0]) (by kernel_rfl) ((World.rangeAt_drew _ _ _ _).2 HS0.out) (fun hH => ?_)
            clear hH
            have HN1 := Lib.hid (HN0.out.below (Below.refl _ _).drew)
            have hs := (World.rangeAt_drew _ _ _ _).2 HS0.out
            have hkb : xk < V0.drew.heap.size := HKB.out.2
            clear HN0 HS0
            generalize V0.drew = V1 at *
            obtain ⟨stp, V2, hent, hmo2, hx2, hsto⟩ := HN1.out.mo.entry (by have := HJ.out; unfold maxLen; omega) ⟨xa, xb, xs, 0⟩ HG.out
            have hl1 := (HN1.out.mo.look ⟨xa, xb, xs, 0⟩ HG.out).1
            have hl2 := (hmo2.look ⟨xa, xb, xs, 0⟩ HG.out).1
            obtain ⟨V3, hst3, hmo3, hx3⟩ := hsto (M ⟨xa, xb, xs, 0⟩ - 1) HWF.out
            have hs2 : V2.rangeAt xk 0 [.int .i64 xa, .int .i64 xb, .string xs, .int .i64 0] := fun q u hq => (World.cell?_of_block (a := ⟨xk, 0 + q, none⟩) (hx2.block xk hkb HKB.out.1 HKB.out.1)).trans (hs q u hq)
            have hs3 : V3.rangeAt xk 0 [.int .i64 xa, .int .i64 xb, .string xs, .int .i64 0] := fun q u hq => (World.cell?_of_block (a := ⟨xk, 0 + q, none⟩) (hx3.block xk (Nat.lt_of_lt_of_le hkb hx2.size) HKB.out.1 HKB.out.1)).trans (hs2 q u hq)
            simp only [gmV] at hent hl1 hl2
            refine tk 0 (by assumption) rfl (by kernel_rfl) (fun _ _ _ h => h) (fun V hV => by go_simp; try with_reducible rfl) ?_
            try simp only [Act.put, sqA, sqB, sqC, sqD, sqE, sqF]
            refine tk 1 (by assumption) rfl (by kernel_rfl) (fun _ _ _ h => h) (tk_load (S := fun V => V.rangeAt xk 0 [.int .i64 xa, .int .i64 xb, .string xs, .int .i64 0]) 35 (.tmp 8) rfl xk (0) rfl [.int .i64 xa, .int .i64 xb, .string xs, .int .i64 0] _ (fun V hV => hV) Try.underlying35 (by rfl) (by kernel_rfl)) ?_
            try simp only [Act.put, sqA, sqB, sqC, sqD, sqE, sqF]
            refine wpAnyH_ready (rs := [2, 4]) (by kernel_rfl) (by simp) ?_
            refine AllReadyH.cons (o := _) rfl (fun K hK => ?_) (AllReadyH.cons (o := _) rfl (fun K hK => ?_) (AllReadyH.nil))
            · rw [if_pos (by rfl)]
              first | refine wp_look 42 (.tmp 76) (.tmp 77) rfl mb (.agg #[.int .i64 xa, .int .i64 xb, .string xs, .int .i64 0]) (.int .i64 (M ⟨xa, xb, xs, 0⟩)) rfl rfl hl1 ?_ | refine wp_look 42 (.tmp 76) (.tmp 77) rfl mb (.agg #[.int .i64 xa, .int .i64 xb, .string xs, .int .i64 0]) (.int .i64 (M ⟨xa, xb, xs, 0⟩)) rfl rfl hl2 ?_
              refine hK.out _ _ (by assumption) (fun hH => ?_)
              clear hK K hH
              try simp only [Act.put, sqA, sqB, sqC, sqD, sqE, sqF]
              refine tk 3 (by assumption) rfl (by kernel_rfl) (fun _ _ _ h => h) (fun V hV => by go_simp; try with_reducible rfl) ?_
              try simp only [Act.put, sqA, sqB, sqC, sqD, sqE, sqF]
              refine wpAnyH_ready (rs := [4]) (by kernel_rfl) (by simp) ?_
              refine AllReadyH.cons (o := _) rfl (fun K hK => ?_) AllReadyH.nil
              rw [if_pos (by rfl)]
              refine wp_entry 42 (.tmp 76) (.tmp 77) rfl mb (.agg #[.int .i64 xa, .int .i64 xb, .string xs, .int .i64 0]) _ rfl rfl hent ?_
              refine hK.out _ _ hs2 (fun hH => ?_)
              clear hK K hH
              try simp only [Act.put, sqA, sqB, sqC, sqD, sqE, sqF]
              refine tk 5 (by assumption) rfl (by kernel_rfl) (fun _ _ _ h => h) (fun V hV => by go_simp; try with_reducible rfl) ?_
              try simp only [Act.put, sqA, sqB, sqC, sqD, sqE, sqF]
              refine wpAnyH_ready (rs := [6]) (by kernel_rfl) (by simp) ?_
              refine AllReadyH.cons (o := _) rfl (fun K hK => ?_) AllReadyH.nil
              rw [if_pos (by rfl)]
              refine wp_estore 42 (.tmp 76) (.tmp 81) (.tmp 79) rfl mb (goInt stp) (.int .i64 (M ⟨xa, xb, xs, 0⟩ - 1)) rfl rfl rfl hst3 ?_
              refine hK.out _ _ hs3 (fun hH => ?_)
              clear hK K hH
              try simp only [Act.put, sqA, sqB, sqC, sqD, sqE, sqF]
              refine wpAnyH_done (by kernel_rfl) ?_ _
              have HN3 := Lib.hid ((HN1.out.xr hx2 hmo2 (fun x => by have := HN1.out.few x; omega)).xr hx3 (hmo3.more (Nat.le_refl _)) (fun x => by have := HN1.out.few x; have := HN1.out.few ⟨xa, xb, xs, 0⟩; split <;> omega))
              clear hs hs2 hs3 hkb hent hl1 hl2 hst3 hmo2 hmo3 hx2 hx3 hsto
              go_wp2_with fail
              exact HNX.out _ _ _ _ HN3.out HTK.out.2
            · rw [if_pos (by rfl)]
              refine wp_entry 42 (.tmp 76) (.tmp 77) rfl mb (.agg #[.int .i64 xa, .int .i64 xb, .string xs, .int .i64 0]) _ rfl rfl hent ?_
              refine hK.out _ _ hs2 (fun hH => ?_)
              clear hK K hH
              try simp only [Act.put, sqA, sqB, sqC, sqD, sqE, sqF]
              refine tk 5 (by assumption) rfl (by kernel_rfl) (fun _ _ _ h => h) (fun V hV => by go_simp; try with_reducible rfl) ?_
              try simp only [Act.put, sqA, sqB, sqC, sqD, sqE, sqF]
              refine wpAnyH_ready (rs := [2]) (by kernel_rfl) (by simp) ?_
              refine AllReadyH.cons (o := _) rfl (fun K hK => ?_) AllReadyH.nil
              rw [if_pos (by rfl)]
              first | refine wp_look 42 (.tmp 76) (.tmp 77) rfl mb (.agg #[.int .i64 xa, .int .i64 xb, .string xs, .int .i64 0]) (.int .i64 (M ⟨xa, xb, xs, 0⟩)) rfl rfl hl1 ?_ | refine wp_look 42 (.tmp 76) (.tmp 77) rfl mb (.agg #[.int .i64 xa, .int .i64 xb, .string xs, .int .i64 0]) (.int .i64 (M ⟨xa, xb, xs, 0⟩)) rfl rfl hl2 ?_
              refine hK.out _ _ (by assumption) (fun hH => ?_)
              clear hK K hH
              try simp only [Act.put, sqA, sqB, sqC, sqD, sqE, sqF]
              refine tk 3 (by assumption) rfl (by kernel_rfl) (fun _ _ _ h => h) (fun V hV => by go_simp; try with_reducible rfl) ?_
              try simp only [Act.put, sqA, sqB, sqC, sqD, sqE, sqF]
              refine wpAnyH_ready (rs := [6]) (by kernel_rfl) (by simp) ?_
              refine AllReadyH.cons (o := _) rfl (fun K hK => ?_) AllReadyH.nil
              rw [if_pos (by rfl)]
              refine wp_estore 42 (.tmp 76) (.tmp 81) (.tmp 79) rfl mb (goInt stp) (.int .i64 (M ⟨xa, xb, xs, 0⟩ - 1)) rfl rfl rfl hst3 ?_
              refine hK.out _ _ hs3 (fun hH => ?_)
              clear hK K hH
              try simp only [Act.put, sqA, sqB, sqC, sqD, sqE, sqF]
              refine wpAnyH_done (by kernel_rfl) ?_ _
              have HN3 := Lib.hid ((HN1.out.xr hx2 hmo2 (fun x => by have := HN1.out.few x; omega)).xr hx3 (hmo3.more (Nat.le_refl _)) (fun x => by have := HN1.out.few x; have := HN1.out.few ⟨xa, xb, xs, 0⟩; split <;> omega))
              clear hs hs2 hs3 hkb hent hl1 hl2 hst3 hmo2 hmo3 hx2 hx3 hsto
              go_wp2_with fail
              exact HNX.out _ _ _ _ HN3.out HTK.out.2
          have n3 : (kd == 3) = false := by simpa using h3
          have n1 : (kd == 1) = false := by simpa using h1
          have HII := Lib.hid (HI.out.does kd i kk h1 h3)
          clear h1 h3 hE
          go_wp2_with fail
          obtain ⟨r2, hno2⟩ := HNE.out
          exact HNX.out _ _ _ _ (HSM.out _ _ _ _ (hno2.below (gAl w3 _))) HII.out
        · have hE2 : (doE l kd i kk != 0) = true := by simpa using hE
          have HLL : Hid (doL l kd i kk = l) := Lib.hid (by unfold doL; rw [if_pos hE])
          clear hE
          go_wp2_with fail
          obtain ⟨r2, hno2⟩ := HNE.out
          rw [HLL.out] at hno2
          exact HNX.out _ _ _ _ (HSM.out _ _ _ _ (hno2.below (gAl w3 _))) HI.out
    · have hnj : ¬ (j : Int) < (L.length : Int) := by omega
      clear hlt hj
      go_wp2_with fail
      refine (awake_any _).mono ?_
      rintro e w2 ⟨rfl, b2⟩
      go_wp2_with fail
      go_ret
      exact ⟨rfl, (HN.out.below b2).bel⟩
end Go.Proofs.Ytldbmdalmhhpfaa
