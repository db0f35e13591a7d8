/-
  The law MessageDecodes is proved: for every input the call returns true, and each argument reads afterwards as it read before. The row lists one package-level variable of Go's library, errors.errorType; the card ties it to the program's text (the tie is given). No other condition.
-/
import Derived.Test.YtidfgjgbigedeaaGreatDoorCards
import Derived.Test.YtidfgjgbigedeaaGreatDoorTie
import Derived.LaidMore
import Derived.LaidHandle
import Derived.ChangeVars
import Derived.ChangeSame
import Derived.JoinedOf
import Derived.Lay
import Derived.LaidLaws
import Derived.Lib.LaidTab
import Derived.Stop.Joined
import Derived.Stop.LaidErr
import Derived.SevenTiedAt
import Derived.WalkKit
import Derived.ProofKit
import Derived.OpenShut
import Derived.ShutString
import Derived.ChangeOld
import Derived.Below
import Derived.SizedLaws
import Derived.Laws.Cover2
import Derived.Test.YtidfgjgbigedeaaGreatDoorMiM
namespace Go.Proofs.YtidfgjgbigedeaaGreatDoor.messageDecodes
open Go.ChangeShapes Go.WideShapes Go.ChangeAt Go.RowKit Go.Wq Go.Mq Go.Lib
open Go.ChangeMaps (open_string shut_string)
set_option linter.unusedVariables false

theorem own : ownKnob Tryz.prog.godebug = none := by kernel_rfl
theorem laidOut : laidOutB Tryz.prog = true := by kernel_rfl

theorem lt64 {a : Nat} (h : (Lit.float .f64 a).wf = true) : a < 2 ^ 64 := by simpa [Lit.wf] using h

theorem et : Tryz.prog.globalNamed "errors.errorType" = some 2 := by kernel_rfl
theorem rt : (Tryz.prog.cutTypes.find? (·.1 == "internal/reflectlite.rtype")).map (·.2) = some 185 := by kernel_rfl
theorem size : Tryz.prog.types.size = 221 := by kernel_rfl
theorem oneRow : ((List.range 221).filter fun t => Tryz.prog.rowNamed t [101, 114, 114, 111, 114]) = [123] := by kernel_rfl
theorem handle_of_laid {W : World} (h : laidMetH Tryz.prog Rows.messageDecodesRow.laid W) : Handle W := by
  have h' : laidMet Tryz.prog [("beacon/message.shapes", Rows.laid_beacon_message_shapes)] W ∧ handlesMet Tryz.prog [("errors.errorType", Rows.laid_errors_errorType)] W := h
  obtain ⟨name, u, ty, e1, e2, e3, e4, e5⟩ := h'.2 _ (List.mem_singleton.2 rfl)
  have en : name = [101, 114, 114, 111, 114] := (Option.some.inj e1).symm
  subst en
  obtain rfl := Option.some.inj (rt.symm.trans e2)
  have hm : ty ∈ (List.range 221).filter fun t => Tryz.prog.rowNamed t [101, 114, 114, 111, 114] := List.mem_filter.2 ⟨List.mem_range.2 (by rw [← size]; exact e3), e4⟩
  rw [oneRow] at hm
  obtain rfl := List.mem_singleton.1 hm
  have hh : typeHandle Tryz.prog 123 = .pointer (some ⟨4, 123, none⟩) := by kernel_rfl
  rw [hh] at e5
  have e6 := World.var?_cell et e5 0
  simpa [Handle] using e6
theorem gShapes : Tryz.prog.globalNamed "beacon/message.shapes" = some 0 := by kernel_rfl
theorem tShapes : (Tryz.prog.globals[0]?).map (·.type) = some 44 := by kernel_rfl
theorem cells5 : Tryz.prog.cellsOf 44 = 5 := by kernel_rfl
theorem cells1 : Tryz.prog.cellsOf 9 = 1 := by kernel_rfl
theorem shapes_of_laid {W : World} (hh : laidMetH Tryz.prog Rows.messageDecodesRow.laid W) (hpos : 0 < W.heap.size) : Shps W := by
  have h' : laidMet Tryz.prog [("beacon/message.shapes", Rows.laid_beacon_message_shapes)] W ∧ handlesMet Tryz.prog [("errors.errorType", Rows.laid_errors_errorType)] W := hh
  obtain ⟨ps, ⟨g0, t0, cs0, f0, p0, q0, hg0, ht0, hv0, hd0, _, _⟩, _, _⟩ := h'.1
  obtain rfl := Option.some.inj (gShapes.symm.trans hg0)
  obtain rfl := Option.some.inj (tShapes.symm.trans ht0)
  obtain ⟨xs, m1, rfl, hx1, hlen, hn4, hel⟩ := DataW.trod_array Tryz.underlying44 hd0
  rw [cells5] at hlen
  simp only [cells1, Nat.mul_one] at hel
  have hx2 : xs.map (·.1) = [.lit (.string []), .lit (.string [117, 117, 117]), .lit (.string [117, 117, 117, 117, 40, 117, 117, 102, 102, 117, 41]), .lit (.string [117, 117, 117, 117]), .lit (.string [117, 117, 117, 117, 117, 117, 117, 117, 117, 117, 117, 116, 116])] := by
    have := congrArg Prod.fst hx1
    simp only [Rows.laid_beacon_message_shapes, DataW.agg.injEq] at this
    exact this.symm
  have key : ∀ r, r < 5 → ∀ l : List UInt8, (xs.map (·.1))[r]? = some (.lit (.string l)) → W.cell? ⟨0, r, none⟩ = some (.string ⟨l.toArray⟩) := by
    intro r hr l hl
    have hxr : r < xs.length := by omega
    have h1 := hel r hr
    rw [List.getElem?_eq_getElem hxr] at h1
    obtain ⟨s, e1, e2, _⟩ := DataW.trod_string Tryz.underlying9 h1
    rw [List.getElem?_map, List.getElem?_eq_getElem hxr, Option.map_some, e2] at hl
    have hs : s.data.toList = l := by simpa using hl
    have hs2 : s = ⟨l.toArray⟩ := by rw [← hs]
    have hc : cs0[r]? = some (.string s) := by
      have hrl : r < cs0.size := by simpa using (show r < cs0.toList.length by omega)
      have e3 : (cs0.toList.drop r).take 1 = [cs0[r]] := by
        rw [List.drop_eq_getElem_cons (by simpa using hrl)]
        simp
      rw [e3] at e1
      rw [Array.getElem?_eq_getElem hrl]
      simpa using e1
    have := World.var?_cell hg0 hv0 r
    rw [hc] at this
    rw [← hs2]
    exact this
  rw [hx2] at key
  exact ⟨hpos, key 1 (by omega) _ rfl, key 2 (by omega) _ rfl, key 3 (by omega) _ rfl, key 4 (by omega) _ rfl⟩
noncomputable def laidWorld (os : Os) : World :=
  let w0 := World.holding Tryz.prog os ⟨#[], #[], []⟩
  { w0 with heap := (w0.heap.modify 0 fun
      | .cells _ t frozen => .cells #[.string ⟨#[]⟩, .string ⟨#[117, 117, 117]⟩, .string ⟨#[117, 117, 117, 117, 40, 117, 117, 102, 102, 117, 41]⟩, .string ⟨#[117, 117, 117, 117]⟩, .string ⟨#[117, 117, 117, 117, 117, 117, 117, 117, 117, 117, 117, 116, 116]⟩] t frozen
      | o => o).modify 2 fun
      | .cells _ t frozen => .cells #[.iface 185 (.agg #[.pointer (some ⟨4, 123, none⟩)])] t frozen
      | o => o }
theorem laidWorld_met (os : Os) (args : Array Value) : laidMetH Tryz.prog Rows.messageDecodesRow.laid ((laidWorld os).forCall (fun _ _ => 0) ⟨#[], args, []⟩).memory :=
  laidMetH_of_parts (laidMet_of_run' 8 (by kernel_rfl) (by kernel_rfl)) (by kernel_rfl)
set_option maxRecDepth 100000 in
theorem lifted (os : Os) (started : os.Started) (H : Type) (enc : TypeId × Value → H) :
    ReturnsInHanded {} Tryz.checked os 4 .any (fun w args => (Rows.messageDecodesSpec.pre enc Tryz.prog Tryz.f4 [] false w args ∧ laidMetH Tryz.prog Rows.messageDecodesRow.laid w) ∧ sizedMet enc Tryz.prog Tryz.f4 (OpenSpec.ofChange Rows.messageDecodesSpec) false w args) (Rows.messageDecodesSpec.post enc Tryz.prog Tryz.f4 false true false false) := by
  refine returnsInHanded_of_change_and (C := Tryz.checked) (X := fun w _ => laidMetH Tryz.prog Rows.messageDecodesRow.laid w) (fun _ _ _ hh h => h.of_heap hh) own started (by kernel_rfl) Tryz.func4
    (ChangeSpec.witness_at (enc := enc) (C := Tryz.checked) (os := os) (X := fun w _ => laidMetH Tryz.prog Rows.messageDecodesRow.laid w) false (laidWorld os) #[.string ⟨#[]⟩] 8 rfl (by kernel_rfl) (by kernel_rfl) (by kernel_rfl) (by kernel_rfl) (by kernel_rfl) (laidWorld_met os _)) ?_
  intro W base args ds gs before hval0 hW hcnd0 hsz0 hL hholds
  have hsz : (DataW.weightsEach Tryz.prog (Tryz.f4.params.toList ++ Rows.messageDecodesSpec.plain.varTypes Tryz.prog) (ds ++ gs)).all (· ≤ reachBytes) = true := hsz0
  clear hsz0
  have hval : ∀ (j : Nat) t v, Tryz.f4.params[j]? = some t → args[j]? = some v → Value.okWide Tryz.prog W .any base t v := hval0
  have hW' := hW
  obtain ⟨p, q, hA0, hV, rfl, hfz, hnd⟩ := hW
  have hA : DataW.TrodAll enc Tryz.prog W 0 (fun _ => true) true Tryz.f4.params.toList args.toList ds p := hA0
  rw [Tryz.params4] at hA hval hsz
  obtain ⟨v0, vs0, d0, ds0, p0, q0, hargs, rfl, rfl, h0, r0⟩ := trodAll_cons hA
  obtain ⟨rfl, rfl, rfl⟩ := trodAll_nil r0
  obtain rfl : args = #[v0] := by cases args; simp_all
  obtain ⟨rfl, rfl⟩ := trodVars_none hV
  have k0 := h0
  have lt0 : ∀ x ∈ p0, x.block < W.heap.size := by obtain ⟨m, hm⟩ := k0; exact DataW.trod_lt m _ _ _ hm
  obtain ⟨a0, rfl, e0, f0, w0⟩ := open_string Tryz.underlying9 (hval 0 9 v0 rfl rfl) h0
  have rr0 : a0.size ≤ 140737488351232 := by
    have h := sized_string hsz (j := 0) rfl (by rw [← e0]; rfl)
    simpa [reachBytes] using h
  have hgl := handle_of_laid hL
  have hsl := shapes_of_laid hL (Nat.lt_of_le_of_lt (Nat.zero_le _) hgl.pos)
  clear hA0 hval0
  refine (msgLaw_decodes a0 W w0 rr0 hgl hsl).mono fun e W' ⟨he, bel⟩ => ?_
  subst he
  exact ⟨_, rfl, _, _, _, [], _, [], hW', trodAll_mk1 (shut_bool Tryz.underlying4 _), (trodAll_cons_mk (Below.trod laidOut (by kernel_rfl) (of_decide_eq_true (by kernel_rfl)) k0 bel lt0) trodAll_mk0), rfl, bel.frame _, fun h => by cases h⟩

theorem over : Rows.messageDecodesRow.holds Tryz.pinned (OpenSpec.ofChange Rows.messageDecodesSpec) :=
  OpenClaim.holds_of_wide 4 Tryz.f4 rfl rfl rfl rfl rfl rfl rfl ⟨rfl, rfl, rfl, rfl, rfl⟩ rfl rfl rfl rfl rfl (by kernel_rfl) Tryz.func4 (by kernel_rfl)
    (of_decide_eq_true (by kernel_rfl)) (by unfold Func.isWrapper; first | (rw [if_pos (by decide +kernel)]; kernel_rfl) | (rw [if_neg (by decide +kernel)]; exact ⟨rfl, rfl⟩))
    (fun os started H enc _ => lifted os started H enc)

theorem said : Rows.MessageDecodesSaid := over

theorem proved : Rows.MessageDecodesCardSaid :=
  Claim7.holds_tied_plain_at .later [] Rows.messageDecodesCard.laidKinds true Rows.messageDecodesCard.stood.harness Rows.messageDecodesCard.stood.looks
    said (fun _ h => by cases h) (by kernel_rfl) (fun _ h => by cases h) messageDecodes_row_tie rfl ⟨rfl, rfl⟩ (by kernel_rfl) rfl
    (fun f fn hf hfn => by
      obtain rfl : f = 4 := Option.some.inj ((show Tryz.prog.funcNamed "beacon/beaconlaw06.MessageDecodes" = some 4 by kernel_rfl).symm.trans hf) |>.symm
      obtain rfl : fn = Tryz.f4 := (Option.some.inj (Tryz.func4.symm.trans hfn)).symm
      exact ⟨by kernel_rfl, fun j t ht => by
        rw [Tryz.params4] at ht
        have hm : t ∈ [9] := by simpa using Array.mem_of_getElem? ht
        have hall : ([9].all fun u => !Tryz.prog.wantsStandIn u) = true := by kernel_rfl
        exact (show Tryz.prog.wantsStandIn t = false by simpa using List.all_eq_true.1 hall t hm)⟩)
    (by kernel_rfl)
end Go.Proofs.YtidfgjgbigedeaaGreatDoor.messageDecodes

