/-
  The law MetricTexts is proved: for every input the call returns true, and each argument reads afterwards as it read before. No condition.
-/
import Derived.Test.YtloaajoeciajaaaDoorCards
import Derived.Test.YtloaajoeciajaaaDoorTie
import Derived.LaidMore
import Derived.Lay
import Derived.LaidLaws
import Derived.Lib.LaidTab
import Derived.Stop.Joined
import Derived.Stop.LaidErr
import Derived.SevenTiedAt
import Derived.WalkKit
import Derived.ProofKit
import Derived.OpenShut
import Derived.ShutString
import Derived.ChangeOld
import Derived.Below
import Derived.SizedLaws
import Derived.Laws.Cover2
import Derived.Test.YtloaajoeciajaaaDoorFqS
import Derived.Test.YtloaajoeciajaaaDoorFlY
namespace Go.Proofs.YtloaajoeciajaaaDoor.metricTexts
open Go.ChangeShapes Go.WideShapes Go.ChangeAt Go.RowKit Go.Fq
open Go.ChangeMaps (open_string shut_string)
set_option linter.unusedVariables false

theorem own : ownKnob Tryd.prog.godebug = none := by kernel_rfl
theorem laidOut : laidOutB Tryd.prog = true := by kernel_rfl

theorem lt64 {a : Nat} (h : (Lit.float .f64 a).wf = true) : a < 2 ^ 64 := by simpa [Lit.wf] using h

theorem gParts : Tryd.prog.globalNamed "beacon/metric.parts" = some 0 := by kernel_rfl
theorem tParts : (Tryd.prog.globals[0]?).map (·.type) = some 36 := by kernel_rfl
theorem tPow : (Tryd.prog.globals[2]?).map (·.type) = some 72 := by kernel_rfl
theorem cells4 : Tryd.prog.cellsOf 36 = 4 := by kernel_rfl
theorem cells1 : Tryd.prog.cellsOf 9 = 1 := by kernel_rfl
theorem parts_of_laid {W : World} (h : laidMet Tryd.prog [("beacon/metric.parts", Rows.laid_beacon_metric_parts)] W) : ∀ r, r < 4 → W.cell? ⟨0, r, none⟩ = some (.string (partS r)) := by
  obtain ⟨ps, ⟨g0, t0, cs0, f0, p0, q0, hg0, ht0, hv0, hd0, _, _⟩, _, _⟩ := h
  obtain rfl := Option.some.inj (gParts.symm.trans hg0)
  obtain rfl := Option.some.inj (tParts.symm.trans ht0)
  obtain ⟨xs, m1, rfl, hx1, hlen, hn4, hel⟩ := DataW.trod_array Tryd.underlying36 hd0
  rw [cells4] at hlen
  simp only [cells1, Nat.mul_one] at hel
  have hx2 : xs.map (·.1) = [.lit (.string []), .lit (.string [46, 50, 53]), .lit (.string [46, 53]), .lit (.string [46, 55, 53])] := by
    have := congrArg Prod.fst hx1
    simp only [Rows.laid_beacon_metric_parts, DataW.agg.injEq] at this
    exact this.symm
  intro r hr
  have hxr : r < xs.length := by omega
  have h1 := hel r hr
  rw [List.getElem?_eq_getElem hxr] at h1
  obtain ⟨s, e1, e2, _⟩ := DataW.trod_string Tryd.underlying9 h1
  have hdr : (xs.map (·.1))[r]? = some (.lit (.string s.data.toList)) := by
    rw [List.getElem?_map, List.getElem?_eq_getElem hxr, Option.map_some, e2]
  rw [hx2] at hdr
  have hs : s = partS r := by
    have : r = 0 ∨ r = 1 ∨ r = 2 ∨ r = 3 := by omega
    have hl : s.data.toList = partL.getD r [] := by
      rcases this with rfl | rfl | rfl | rfl <;> (simp at hdr; simp [partL, ← hdr])
    show s = ⟨(partL.getD r []).toArray⟩
    rw [← hl]
  have hc : cs0[r]? = some (.string s) := by
    have hrl : r < cs0.size := by simpa using (show r < cs0.toList.length by omega)
    have e3 : (cs0.toList.drop r).take 1 = [cs0[r]] := by
      rw [List.drop_eq_getElem_cons (by simpa using hrl)]
      simp
    rw [e3] at e1
    rw [Array.getElem?_eq_getElem hrl]
    simpa using e1
  have := World.var?_cell hg0 hv0 r
  rw [hc] at this
  rw [← hs]
  exact this
set_option maxRecDepth 100000 in
theorem lifted (os : Os) (started : os.Started) (H : Type) (enc : TypeId × Value → H) :
    ReturnsInHanded {} Tryd.checked os 3 .any (fun w args => (Rows.metricTextsSpec.pre enc Tryd.prog Tryd.f3 [] false w args ∧ laidMetH Tryd.prog Rows.metricTextsRow.laid w) ∧ sizedMet enc Tryd.prog Tryd.f3 (OpenSpec.ofChange Rows.metricTextsSpec) false w args) (Rows.metricTextsSpec.post enc Tryd.prog Tryd.f3 false true false false) := by
  refine returnsInHanded_of_change_and (C := Tryd.checked) (X := fun w _ => laidMetH Tryd.prog Rows.metricTextsRow.laid w) (fun _ _ _ hh h => h.of_heap hh) own started (by kernel_rfl) Tryd.func3
    (ChangeSpec.witness_shaped (enc := enc) (C := Tryd.checked) (os := os) (X := fun w _ => laidMetH Tryd.prog Rows.metricTextsRow.laid w) false (World.laidAll Tryd.prog os Rows.metricTextsRow.laid) #[.float .f64 0] 8 (World.laidAll_os _ _ _)
      (World.shaped_of_ZipB (by as_aux_lemma => kernel_rfl) (by as_aux_lemma => kernel_rfl)) (by as_aux_lemma => kernel_rfl) (by as_aux_lemma => kernel_rfl) (by as_aux_lemma => kernel_rfl)
      (by rw [MakeChecks.laidMetH_plain _ _ _ (by kernel_rfl)]; exact laidMet_laidAll _ (by kernel_rfl) (by kernel_rfl))) ?_
  intro W base args ds gs before hval0 hW hcnd0 hsz0 hL hholds
  have hsz : (DataW.weightsEach Tryd.prog (Tryd.f3.params.toList ++ Rows.metricTextsSpec.plain.varTypes Tryd.prog) (ds ++ gs)).all (· ≤ reachBytes) = true := hsz0
  clear hsz0
  have hval : ∀ (j : Nat) t v, Tryd.f3.params[j]? = some t → args[j]? = some v → Value.okWide Tryd.prog W .any base t v := hval0
  have hW' := hW
  obtain ⟨p, q, hA0, hV, rfl, hfz, hnd⟩ := hW
  have hA : DataW.TrodAll enc Tryd.prog W 0 (fun _ => true) true Tryd.f3.params.toList args.toList ds p := hA0
  rw [Tryd.params3] at hA hval hsz
  obtain ⟨v0, vs0, d0, ds0, p0, q0, hargs, rfl, rfl, h0, r0⟩ := trodAll_cons hA
  obtain ⟨rfl, rfl, rfl⟩ := trodAll_nil r0
  obtain rfl : args = #[v0] := by cases args; simp_all
  obtain ⟨rfl, rfl⟩ := trodVars_none hV
  have k0 := h0
  have lt0 : ∀ x ∈ p0, x.block < W.heap.size := by obtain ⟨m, hm⟩ := k0; exact DataW.trod_lt m _ _ _ hm
  obtain ⟨a0, rfl, e0, f0, w0⟩ := open_float Tryd.underlying22 (hval 0 22 v0 rfl rfl) h0
  rw [MakeChecks.laidMetH_plain _ _ _ (by kernel_rfl)] at hL
  have hL0 : laidMet Tryd.prog [("math/bits.deBruijn32tab", Rows.laid_math_bits_deBruijn32tab), ("math/bits.deBruijn64tab", Rows.laid_math_bits_deBruijn64tab), ("internal/strconv.uint64pow10", Rows.laid_internal_strconv_uint64pow10), ("beacon/metric.parts", Rows.laid_beacon_metric_parts)] W := hL
  have hpow : laidMet Tryd.prog (("internal/strconv.uint64pow10", Lib.tabData .u64 Lib.pow10Tab) :: [("beacon/metric.parts", Rows.laid_beacon_metric_parts)]) W := hL0.tail.tail
  have htab := Lib.tabIs_of_head gPow tPow Tryd.underlying72 Tryd.underlying48 (by kernel_rfl) (by kernel_rfl) hpow
  have hcells := parts_of_laid hL0.tail.tail.tail
  clear hA0 hval0
  refine (law_texts a0 W (lt64 w0) htab hcells).mono fun e W' ⟨he, bel⟩ => ?_
  subst he
  exact ⟨_, rfl, _, _, _, [], _, [], hW', trodAll_mk1 (shut_bool Tryd.underlying4 _), (trodAll_cons_mk (Below.trod laidOut (by kernel_rfl) (of_decide_eq_true (by kernel_rfl)) k0 bel lt0) trodAll_mk0), rfl, bel.frame _, fun h => by cases h⟩

theorem over : Rows.metricTextsRow.holds Tryd.pinned (OpenSpec.ofChange Rows.metricTextsSpec) :=
  OpenClaim.holds_of_wide 3 Tryd.f3 rfl rfl rfl rfl rfl rfl rfl ⟨rfl, rfl, rfl, rfl, rfl⟩ rfl rfl rfl rfl rfl (by kernel_rfl) Tryd.func3 (by kernel_rfl)
    (of_decide_eq_true (by kernel_rfl)) (by unfold Func.isWrapper; first | (rw [if_pos (by decide +kernel)]; kernel_rfl) | (rw [if_neg (by decide +kernel)]; exact ⟨rfl, rfl⟩))
    (fun os started H enc _ => lifted os started H enc)

theorem said : Rows.MetricTextsSaid := over

theorem proved : Rows.MetricTextsCardSaid :=
  Claim7.holds_tied_plain_at .later [] Rows.metricTextsCard.laidKinds true Rows.metricTextsCard.stood.harness Rows.metricTextsCard.stood.looks
    said (fun _ h => by cases h) (by kernel_rfl) (fun _ h => by cases h) metricTexts_row_tie rfl ⟨rfl, rfl⟩ (by kernel_rfl) rfl
    (fun f fn hf hfn => by
      obtain rfl : f = 3 := Option.some.inj ((show Tryd.prog.funcNamed "beacon/beaconlaw01.MetricTexts" = some 3 by kernel_rfl).symm.trans hf) |>.symm
      obtain rfl : fn = Tryd.f3 := (Option.some.inj (Tryd.func3.symm.trans hfn)).symm
      exact ⟨by kernel_rfl, fun j t ht => by
        rw [Tryd.params3] at ht
        have hm : t ∈ [22] := by simpa using Array.mem_of_getElem? ht
        have hall : ([22].all fun u => !Tryd.prog.wantsStandIn u) = true := by kernel_rfl
        exact (show Tryd.prog.wantsStandIn t = false by simpa using List.all_eq_true.1 hall t hm)⟩)
    (by kernel_rfl)
end Go.Proofs.YtloaajoeciajaaaDoor.metricTexts
