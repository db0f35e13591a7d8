/-
  The law MetricBack is proved: for every input the call returns true, and each argument reads afterwards as it read before. No condition.
-/
import Derived.Test.YtloaajoeciajaaaDoorCards
import Derived.Test.YtloaajoeciajaaaDoorTie
import Derived.LaidMore
import Derived.Lay
import Derived.LaidLaws
import Derived.Lib.LaidTab
import Derived.Stop.Joined
import Derived.Stop.LaidErr
import Derived.Deep.Strs
import Derived.SevenTiedAt
import Derived.WalkKit
import Derived.ProofKit
import Derived.OpenShut
import Derived.ShutString
import Derived.ChangeOld
import Derived.Below
import Derived.SizedLaws
import Derived.Laws.Cover2
import Derived.Test.YtloaajoeciajaaaDoorFqS
import Derived.Test.YtloaajoeciajaaaDoorFlB
namespace Go.Proofs.YtloaajoeciajaaaDoor.metricBack
open Go.ChangeShapes Go.WideShapes Go.ChangeAt Go.RowKit Go.Fq Go.Deep
open Go.ChangeMaps (open_string shut_string)
set_option linter.unusedVariables false

theorem own : ownKnob Tryd.prog.godebug = none := by kernel_rfl
theorem laidOut : laidOutB Tryd.prog = true := by kernel_rfl

theorem lt64 {a : Nat} (h : (Lit.float .f64 a).wf = true) : a < 2 ^ 64 := by simpa [Lit.wf] using h

theorem gParts : Tryd.prog.globalNamed "beacon/metric.parts" = some 0 := by kernel_rfl
theorem tParts : (Tryd.prog.globals[0]?).map (·.type) = some 36 := by kernel_rfl
theorem tPow : (Tryd.prog.globals[2]?).map (·.type) = some 72 := by kernel_rfl
theorem cells4 : Tryd.prog.cellsOf 36 = 4 := by kernel_rfl
theorem cells1 : Tryd.prog.cellsOf 9 = 1 := by kernel_rfl
theorem parts_of_laid {W : World} {rest : List (String × DataW Unit)} (h : laidMet Tryd.prog (("beacon/metric.parts", Rows.laid_beacon_metric_parts) :: rest) W) : ∀ r, r < 4 → W.cell? ⟨0, r, none⟩ = some (.string (partS r)) := by
  obtain ⟨ps, ⟨g0, t0, cs0, f0, p0, q0, hg0, ht0, hv0, hd0, _, _⟩, _, _⟩ := h
  obtain rfl := Option.some.inj (gParts.symm.trans hg0)
  obtain rfl := Option.some.inj (tParts.symm.trans ht0)
  obtain ⟨xs, m1, rfl, hx1, hlen, hn4, hel⟩ := DataW.trod_array Tryd.underlying36 hd0
  rw [cells4] at hlen
  simp only [cells1, Nat.mul_one] at hel
  have hx2 : xs.map (·.1) = [.lit (.string []), .lit (.string [46, 50, 53]), .lit (.string [46, 53]), .lit (.string [46, 55, 53])] := by
    have := congrArg Prod.fst hx1
    simp only [Rows.laid_beacon_metric_parts, DataW.agg.injEq] at this
    exact this.symm
  intro r hr
  have hxr : r < xs.length := by omega
  have h1 := hel r hr
  rw [List.getElem?_eq_getElem hxr] at h1
  obtain ⟨s, e1, e2, _⟩ := DataW.trod_string Tryd.underlying9 h1
  have hdr : (xs.map (·.1))[r]? = some (.lit (.string s.data.toList)) := by
    rw [List.getElem?_map, List.getElem?_eq_getElem hxr, Option.map_some, e2]
  rw [hx2] at hdr
  have hs : s = partS r := by
    have : r = 0 ∨ r = 1 ∨ r = 2 ∨ r = 3 := by omega
    have hl : s.data.toList = partL.getD r [] := by
      rcases this with rfl | rfl | rfl | rfl <;> (simp at hdr; simp [partL, ← hdr])
    show s = ⟨(partL.getD r []).toArray⟩
    rw [← hl]
  have hc : cs0[r]? = some (.string s) := by
    have hrl : r < cs0.size := by simpa using (show r < cs0.toList.length by omega)
    have e3 : (cs0.toList.drop r).take 1 = [cs0[r]] := by
      rw [List.drop_eq_getElem_cons (by simpa using hrl)]
      simp
    rw [e3] at e1
    rw [Array.getElem?_eq_getElem hrl]
    simpa using e1
  have := World.var?_cell hg0 hv0 r
  rw [hc] at this
  rw [← hs]
  exact this

theorem gInfo : Tryd.prog.globalNamed "internal/strconv.float64info" = some 7 := by kernel_rfl
theorem tInfo : (Tryd.prog.globals[7]?).map (·.type) = some 94 := by kernel_rfl
theorem info_of_laid {W : World} {rest : List (String × DataW Unit)} (h : laidMet Tryd.prog (("internal/strconv.float64info", Rows.laid_internal_strconv_float64info) :: rest) W) : W.cell? ⟨7, 0, none⟩ = some (.int .u64 52) := by
  obtain ⟨ps, ⟨g0, t0, cs0, f0, p0, q0, hg0, ht0, hv0, hd0, _, _⟩, _, _⟩ := h
  obtain rfl := Option.some.inj (gInfo.symm.trans hg0)
  obtain rfl := Option.some.inj (tInfo.symm.trans ht0)
  obtain ⟨y0, y1, y2, n, hx, hlen, h0, _, _⟩ := trod_struct3 Tryd.underlying94 hd0
  have hy : y0.1 = .lit (.int .u64 52) := by
    have := congrArg Prod.fst hx
    simp only [Rows.laid_internal_strconv_float64info, DataW.agg.injEq, List.cons.injEq] at this
    exact this.1.symm
  obtain ⟨z, e1, e2, _⟩ := DataW.trod_int Tryd.underlying60 h0
  have hz : z = 52 := by rw [e2] at hy; simpa using hy
  subst hz
  have c1 : Tryd.prog.cellsOf 60 = 1 := by kernel_rfl
  have c3 : Tryd.prog.cellsOf 94 = 3 := by kernel_rfl
  rw [c3] at hlen
  simp only [c1, List.drop_zero] at e1
  have hs : 0 < cs0.size := by rw [← Array.length_toList]; omega
  have hc : cs0[0]? = some (.int .u64 52) := by
    rw [Array.getElem?_eq_getElem hs]
    have e3 : cs0.toList.take 1 = [cs0[0]] := by
      rw [List.take_one, List.head?_eq_getElem?]
      simp [hs]
    rw [e3] at e1
    simpa using e1
  have := World.var?_cell hg0 hv0 0
  rw [hc] at this
  exact this

theorem gOpt : Tryd.prog.globalNamed "internal/strconv.optimize" = some 6 := by kernel_rfl
theorem tOpt : (Tryd.prog.globals[6]?).map (·.type) = some 4 := by kernel_rfl
theorem opt_of_laid {W : World} {rest : List (String × DataW Unit)} (h : laidMet Tryd.prog (("internal/strconv.optimize", Rows.laid_internal_strconv_optimize) :: rest) W) : W.cell? ⟨6, 0, none⟩ = some (.bool true) := by
  obtain ⟨ps, ⟨g0, t0, cs0, f0, p0, q0, hg0, ht0, hv0, hd0, _, _⟩, _, _⟩ := h
  obtain rfl := Option.some.inj (gOpt.symm.trans hg0)
  obtain rfl := Option.some.inj (tOpt.symm.trans ht0)
  obtain ⟨z, e1, e2⟩ := DataW.trod_bool Tryd.underlying4 hd0
  have hz : z = true := by
    have := congrArg Prod.fst e2
    simp only [Rows.laid_internal_strconv_optimize] at this
    simpa using this.symm
  subst hz
  have := World.var?_cell hg0 hv0 0
  rw [Array.eq_one_of_toList e1] at this
  simpa using this

theorem gP10 : Tryd.prog.globalNamed "internal/strconv.float64pow10" = some 12 := by kernel_rfl
theorem tP10 : (Tryd.prog.globals[12]?).map (·.type) = some 131 := by kernel_rfl
theorem float_cell {H : Type} {enc : TypeId × Value → H} {w : World} {base : Nat} {sp : Nat → Bool} {held : Bool} {n : Nat} {v : Value} {z : Nat} {q : List MemPlace} (h : DataW.trod enc Tryd.prog w base sp held n 22 [v] = some (.lit (.float .f64 z), q)) : v = .float .f64 z :=
  trod_float2 Tryd.underlying22 h
theorem p10_of_laid {W : World} {rest : List (String × DataW Unit)} (h : laidMet Tryd.prog (("internal/strconv.float64pow10", Rows.laid_internal_strconv_float64pow10) :: rest) W) :
    ∃ b off cap, W.cell? ⟨12, 0, none⟩ = some (.slice (some ⟨b, off, none⟩) 23 cap) ∧ W.cell? ⟨b, off + 1, none⟩ = some (.float .f64 4621819117588971520) ∧ W.cell? ⟨b, off + 2, none⟩ = some (.float .f64 4636737291354636288) := by
  obtain ⟨ps, ⟨g0, t0, cs0, f0, p0, q0, hg0, ht0, hv0, hd0, _, _⟩, _, _⟩ := h
  obtain rfl := Option.some.inj (gP10.symm.trans hg0)
  obtain rfl := Option.some.inj (tP10.symm.trans ht0)
  obtain ⟨a, cap, e1, _, hel⟩ := open_row Tryd.underlying131 (by kernel_rfl) hd0
  obtain ⟨v1, n1, q1, c1, d1⟩ := hel 1 (.lit (.float .f64 4621819117588971520)) (by rfl)
  obtain ⟨v2, n2, q2, c2, d2⟩ := hel 2 (.lit (.float .f64 4636737291354636288)) (by rfl)
  rw [float_cell d1] at c1
  rw [float_cell d2] at c2
  obtain ⟨b, off, spot⟩ := a
  have a1 : (⟨b, off, spot⟩ : Addr).add 1 = ⟨b, off + 1, none⟩ := rfl
  have a2 : (⟨b, off, spot⟩ : Addr).add 2 = ⟨b, off + 2, none⟩ := rfl
  rw [a1] at c1
  rw [a2] at c2
  obtain ⟨v0, n0, q0', c0, _⟩ := hel 0 (.lit (.float .f64 4607182418800017408)) (by rfl)
  have hspot : spot = none := by simpa [Addr.add] using World.cell?_spot c0
  subst hspot
  have := World.var?_cell hg0 hv0 0
  rw [Array.eq_one_of_toList e1] at this
  exact ⟨b, off, cap, by simpa using this, c1, c2⟩
set_option maxRecDepth 100000 in
theorem lifted (os : Os) (started : os.Started) (H : Type) (enc : TypeId × Value → H) :
    ReturnsInHanded {} Tryd.checked os 5 .any (fun w args => (Rows.metricBackSpec.pre enc Tryd.prog Tryd.f5 [] false w args ∧ laidMetH Tryd.prog Rows.metricBackRow.laid w) ∧ sizedMet enc Tryd.prog Tryd.f5 (OpenSpec.ofChange Rows.metricBackSpec) false w args) (Rows.metricBackSpec.post enc Tryd.prog Tryd.f5 false true false false) := by
  refine returnsInHanded_of_change_and (C := Tryd.checked) (X := fun w _ => laidMetH Tryd.prog Rows.metricBackRow.laid w) (fun _ _ _ hh h => h.of_heap hh) own started (by kernel_rfl) Tryd.func5
    (ChangeSpec.witness_shaped (enc := enc) (C := Tryd.checked) (os := os) (X := fun w _ => laidMetH Tryd.prog Rows.metricBackRow.laid w) false (World.laidAll Tryd.prog os Rows.metricBackRow.laid) #[.float .f64 0] 8 (World.laidAll_os _ _ _)
      (World.shaped_of_ZipB (by as_aux_lemma => kernel_rfl) (by as_aux_lemma => kernel_rfl)) (by as_aux_lemma => kernel_rfl) (by as_aux_lemma => kernel_rfl) (by as_aux_lemma => kernel_rfl)
      (by rw [MakeChecks.laidMetH_plain _ _ _ (by kernel_rfl)]; exact laidMet_laidAll _ (by kernel_rfl) (by kernel_rfl))) ?_
  intro W base args ds gs before hval0 hW hcnd0 hsz0 hL hholds
  have hsz : (DataW.weightsEach Tryd.prog (Tryd.f5.params.toList ++ Rows.metricBackSpec.plain.varTypes Tryd.prog) (ds ++ gs)).all (· ≤ reachBytes) = true := hsz0
  clear hsz0
  have hval : ∀ (j : Nat) t v, Tryd.f5.params[j]? = some t → args[j]? = some v → Value.okWide Tryd.prog W .any base t v := hval0
  have hW' := hW
  obtain ⟨p, q, hA0, hV, rfl, hfz, hnd⟩ := hW
  have hA : DataW.TrodAll enc Tryd.prog W 0 (fun _ => true) true Tryd.f5.params.toList args.toList ds p := hA0
  rw [Tryd.params5] at hA hval hsz
  obtain ⟨v0, vs0, d0, ds0, p0, q0, hargs, rfl, rfl, h0, r0⟩ := trodAll_cons hA
  obtain ⟨rfl, rfl, rfl⟩ := trodAll_nil r0
  obtain rfl : args = #[v0] := by cases args; simp_all
  obtain ⟨rfl, rfl⟩ := trodVars_none hV
  have k0 := h0
  have lt0 : ∀ x ∈ p0, x.block < W.heap.size := by obtain ⟨m, hm⟩ := k0; exact DataW.trod_lt m _ _ _ hm
  obtain ⟨a0, rfl, e0, f0, w0⟩ := open_float Tryd.underlying22 (hval 0 22 v0 rfl rfl) h0
  rw [MakeChecks.laidMetH_plain _ _ _ (by kernel_rfl)] at hL
  have hL0 : laidMet Tryd.prog (("math/bits.deBruijn32tab", Rows.laid_math_bits_deBruijn32tab) :: ("math/bits.deBruijn64tab", Rows.laid_math_bits_deBruijn64tab) :: ("internal/strconv.float32info", Rows.laid_internal_strconv_float32info) :: ("internal/strconv.float64info", Rows.laid_internal_strconv_float64info) :: ("internal/strconv.optimize", Rows.laid_internal_strconv_optimize) :: ("internal/strconv.powtab", Rows.laid_internal_strconv_powtab) :: ("internal/strconv.float64pow10", Rows.laid_internal_strconv_float64pow10) :: ("internal/strconv.float32pow10", Rows.laid_internal_strconv_float32pow10) :: ("internal/strconv.uint64pow10", Rows.laid_internal_strconv_uint64pow10) :: ("strconv.ErrRange", Rows.laid_strconv_ErrRange) :: ("strconv.ErrSyntax", Rows.laid_strconv_ErrSyntax) :: ("beacon/metric.parts", Rows.laid_beacon_metric_parts) :: ("internal/strconv.leftcheats", Rows.laid_internal_strconv_leftcheats) :: ("internal/strconv.pow10Tab", Rows.laid_internal_strconv_pow10Tab) :: []) W := hL
  have hI := info_of_laid hL0.tail.tail.tail
  have hO := opt_of_laid hL0.tail.tail.tail.tail
  obtain ⟨tb, toff, tcap, hP0, hP1, hP2⟩ := p10_of_laid hL0.tail.tail.tail.tail.tail.tail
  have hpow : laidMet Tryd.prog (("internal/strconv.uint64pow10", Lib.tabData .u64 Lib.pow10Tab) :: _) W := hL0.tail.tail.tail.tail.tail.tail.tail.tail
  have htab := Lib.tabIs_of_head gPow tPow Tryd.underlying72 Tryd.underlying48 (by kernel_rfl) (by kernel_rfl) hpow
  have hcells := parts_of_laid hL0.tail.tail.tail.tail.tail.tail.tail.tail.tail.tail.tail
  have htabs : ∃ b off cap, Tabs W b off cap := ⟨tb, toff, tcap, hI, hO, hP0, hP1, hP2⟩
  clear hA0 hval0
  refine (law_back a0 W (lt64 w0) htab hcells htabs).mono fun e W' ⟨he, bel⟩ => ?_
  subst he
  exact ⟨_, rfl, _, _, _, [], _, [], hW', trodAll_mk1 (shut_bool Tryd.underlying4 _), (trodAll_cons_mk (Below.trod laidOut (by kernel_rfl) (of_decide_eq_true (by kernel_rfl)) k0 bel lt0) trodAll_mk0), rfl, bel.frame _, fun h => by cases h⟩

theorem over : Rows.metricBackRow.holds Tryd.pinned (OpenSpec.ofChange Rows.metricBackSpec) :=
  OpenClaim.holds_of_wide 5 Tryd.f5 rfl rfl rfl rfl rfl rfl rfl ⟨rfl, rfl, rfl, rfl, rfl⟩ rfl rfl rfl rfl rfl (by kernel_rfl) Tryd.func5 (by kernel_rfl)
    (of_decide_eq_true (by kernel_rfl)) (by unfold Func.isWrapper; first | (rw [if_pos (by decide +kernel)]; kernel_rfl) | (rw [if_neg (by decide +kernel)]; exact ⟨rfl, rfl⟩))
    (fun os started H enc _ => lifted os started H enc)

theorem said : Rows.MetricBackSaid := over

theorem proved : Rows.MetricBackCardSaid :=
  Claim7.holds_tied_plain_at .later [] Rows.metricBackCard.laidKinds true Rows.metricBackCard.stood.harness Rows.metricBackCard.stood.looks
    said (fun _ h => by cases h) (by kernel_rfl) (fun _ h => by cases h) metricBack_row_tie rfl ⟨rfl, rfl⟩ (by kernel_rfl) rfl
    (fun f fn hf hfn => by
      obtain rfl : f = 5 := Option.some.inj ((show Tryd.prog.funcNamed "beacon/beaconlaw01.MetricBack" = some 5 by kernel_rfl).symm.trans hf) |>.symm
      obtain rfl : fn = Tryd.f5 := (Option.some.inj (Tryd.func5.symm.trans hfn)).symm
      exact ⟨by kernel_rfl, fun j t ht => by
        rw [Tryd.params5] at ht
        have hm : t ∈ [22] := by simpa using Array.mem_of_getElem? ht
        have hall : ([22].all fun u => !Tryd.prog.wantsStandIn u) = true := by kernel_rfl
        exact (show Tryd.prog.wantsStandIn t = false by simpa using List.all_eq_true.1 hall t hm)⟩)
    (by kernel_rfl)
end Go.Proofs.YtloaajoeciajaaaDoor.metricBack
