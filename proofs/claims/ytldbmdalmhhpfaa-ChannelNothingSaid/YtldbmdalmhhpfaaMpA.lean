/- Channel: a map keyed by datagrams, as a function. -/
import Derived.Test.YtldbmdalmhhpfaaCwM
import Derived.Maps.Own
import Derived.Maps.Views
import Derived.Maps.OwnSet
import Derived.WideKeyEntry
import Derived.DeepKeys4
namespace Go.Proofs.Ytldbmdalmhhpfaa
open Go.RowKit Go.Lib Go.Ow Go.Cw Go.Cq
set_option linter.unusedVariables false
set_option linter.unusedSimpArgs false
set_option maxRecDepth 100000

theorem gmLaw : WideMaps.KeyLaw Try.prog 35 := deep_law (m := 2) (by omega) (by kernel_rfl) (by kernel_rfl) (by kernel_rfl)
theorem gmKeyed : Maps.Keyed Try.prog 35 := Maps.Keyed.of_law gmLaw
abbrev gmV (g : Gm) : Value := .agg #[.int .i64 g.fr, .int .i64 g.to, .string g.bs, .int .i64 g.wt]
def gmLit (g : Gm) : Lit := .string (keyBytes [.int .i64 g.fr, .int .i64 g.to, .string g.bs.data.toList, .int .i64 g.wt])
theorem lits_int (m : Nat) (x : Int) (h : (Lit.int .i64 x).wf = true) : Try.prog.keyLits (m + 1) 3 [.int .i64 x] = some [.int .i64 x] := by
  unfold Program.keyLits
  rw [Try.underlying3]
  simp [h]
theorem lits_str (m : Nat) (s : ByteArray) (h : s.size ≤ maxLen) : Try.prog.keyLits (m + 1) 9 [.string s] = some [.string s.data.toList] := by
  unfold Program.keyLits
  rw [Try.underlying9]
  simp [h]
theorem gm_key (g : Gm) (h : GmOk g) : keyOf Try.prog 35 (gmV g) = some (gmLit g) := by
  obtain ⟨h1, h2, h3, h4⟩ := h
  have w1 : (Lit.int .i64 g.fr).wf = true := by simp [Lit.wf, IntKind.min, IntKind.max, IntKind.signed, IntKind.bits]; omega
  have w2 : (Lit.int .i64 g.to).wf = true := by simp [Lit.wf, IntKind.min, IntKind.max, IntKind.signed, IntKind.bits]; omega
  have w3 : (Lit.int .i64 g.wt).wf = true := by simp [Lit.wf, IntKind.min, IntKind.max, IntKind.signed, IntKind.bits]; omega
  obtain ⟨m, hm⟩ : ∃ m, Try.prog.types.size = m + 1 := ⟨Try.prog.types.size - 1, by kernel_rfl⟩
  unfold keyOf
  rw [Try.underlying35]
  simp only
  rw [if_pos (by simp only [Bool.and_eq_true]; exact ⟨by kernel_rfl, by kernel_rfl⟩)]
  unfold Program.keyLits
  rw [Try.underlying35]
  simp only
  rw [if_pos (by constructor; kernel_rfl; kernel_rfl), hm]
  simp [Value.cells, gcInt, gcStr, lits_int m _ w1, lits_int m _ w2, lits_int m _ w3, lits_str m _ h4, gmLit, List.mapM_cons]
section
open Go.MapKept Go.ChangeMaps Go.WideElems
theorem modify_alike {α : Type} (f g : α → α) (es : Array α) (j : Nat) (h : ∀ x, es[j]? = some x → f x = g x) : es.modify j f = es.modify j g := by
  apply Array.ext'
  rw [Array.toList_modify, Array.toList_modify]
  apply List.ext_getElem?
  intro i
  rw [List.getElem?_modify, List.getElem?_modify]
  by_cases hij : j = i
  · subst hij
    cases hx : es.toList[j]? with
    | none => rfl
    | some x => simp [h x (by simpa using hx)]
  · simp [hij]
/-- Behind 'mapEntry' the map is what it would be had the value that it told been stored. -/
theorem entry_upd {H : Type} {P : Program} {w : World} {t k e : TypeId} {R : Value → Option (DataW H × List MemPlace)} {b : Nat} {es : Array MapEntry} {clock : Nat} (K : WideMaps.KeyLaw P k) (ht : P.underlying t = some (.map k e)) {z : Value} (hz : ∀ u : World, (zeroValue e).run P u = .ok z u) (hb : w.heap[b]? = some (.map es clock)) (F : Fit P k R es clock)
    {key : Value} {kl : Lit} (hkey : keyOf P k key = some kl) {v0 s : Value} {w1 : World} (hE : (Instr.mapEntry t (.map (some b)) key).run P w = .ok (.tuple #[v0, s]) w1) : (Instr.mapUpdate t (.map (some b)) key v0).run P w = .ok () w1 := by
  rcases K.find w hkey es.toList F.keys with ⟨h1, -⟩ | ⟨j, e0, h1, h2, h3⟩
  · simp [Instr.mapEntry, run_underlying ht, MapKept.run_getObj_map hb, K.check w false hkey, h1, hz, MapKept.run_setObj_map _ hb, Result.andThen] at hE
    obtain ⟨⟨rfl, rfl⟩, rfl⟩ := hE
    simp [Instr.mapUpdate, run_underlying ht, MapKept.run_getObj_map hb, K.check w false hkey, h1, MapKept.run_setObj_map _ hb, Result.andThen]
  · have hj : es[j]? = some e0 := by simpa using h2
    simp [Instr.mapEntry, run_underlying ht, MapKept.run_getObj_map hb, K.check w false hkey, h1, hj, h3, K.stays w hkey, MapKept.run_setObj_map _ hb, Result.andThen] at hE
    obtain ⟨⟨rfl, rfl⟩, rfl⟩ := hE
    simp [Instr.mapUpdate, run_underlying ht, MapKept.run_getObj_map hb, K.check w false hkey, h1, hj, h3, K.stays w hkey, MapKept.run_setObj_map _ hb, Result.andThen]
    rw [modify_alike (fun e => { e with key := key, val := e0.val }) (fun e => { e with key := key }) es j (fun x hx => by rw [hj] at hx; cases hx; rfl)]
theorem entry_look {H : Type} {P : Program} {w : World} {t k e : TypeId} {R : Value → Option (DataW H × List MemPlace)} {b : Nat} {es : Array MapEntry} {clock : Nat} (K : WideMaps.KeyLaw P k) (ht : P.underlying t = some (.map k e)) {z : Value} (hz : ∀ u : World, (zeroValue e).run P u = .ok z u) (hb : w.heap[b]? = some (.map es clock)) (F : Fit P k R es clock)
    {key : Value} {kl : Lit} (hkey : keyOf P k key = some kl) {v0 s : Value} {w1 : World} (hE : (Instr.mapEntry t (.map (some b)) key).run P w = .ok (.tuple #[v0, s]) w1) : (Instr.lookup t (.map (some b)) key false).run P w = .ok v0 w := by
  rcases K.find w hkey es.toList F.keys with ⟨h1, -⟩ | ⟨j, e0, h1, h2, h3⟩
  · simp [Instr.mapEntry, run_underlying ht, MapKept.run_getObj_map hb, K.check w false hkey, h1, hz, MapKept.run_setObj_map _ hb, Result.andThen] at hE
    obtain ⟨⟨rfl, rfl⟩, rfl⟩ := hE
    simp [Instr.lookup, run_underlying ht, MapKept.run_getObj_map hb, K.check w _ hkey, h1, hz, Result.andThen]
  · have hj : es[j]? = some e0 := by simpa using h2
    simp [Instr.mapEntry, run_underlying ht, MapKept.run_getObj_map hb, K.check w false hkey, h1, hj, h3, K.stays w hkey, MapKept.run_setObj_map _ hb, Result.andThen] at hE
    obtain ⟨⟨rfl, rfl⟩, rfl⟩ := hE
    simp [Instr.lookup, run_underlying ht, MapKept.run_getObj_map hb, K.check w _ hkey, h1, Result.andThen]
end
/-- A map keyed by datagrams, as a function (of those that may be). -/
def Mo (w : World) (b n : Nat) (M : Gm → Int) : Prop := ∃ D : DataW Unit, w.ownsMap Try.prog 35 (plainElem Try.prog 3) b n D ∧ ∀ g, GmOk g → D.atKey (gmLit g) (.lit (.int .i64 0)) = .lit (.int .i64 (M g))
theorem Mo.new (w : World) : Mo (w.alloc (.map #[] 0)) w.heap.size 0 (fun _ => 0) := ⟨_, World.ownsMap_made w _ _ _, fun g _ => by rfl⟩
theorem Mo.kept {w w' : World} {b n : Nat} {M : Gm → Int} (h : Mo w b n M) (hk : w'.heap[b]? = w.heap[b]?) : Mo w' b n M := by
  obtain ⟨D, ⟨es, clock, hb, hf⟩, hM⟩ := h
  exact ⟨D, ⟨es, clock, hk.trans hb, hf⟩, hM⟩
theorem Mo.lt {w : World} {b n : Nat} {M : Gm → Int} (h : Mo w b n M) : b < w.heap.size := by
  obtain ⟨D, h, -⟩ := h
  exact h.lt
theorem Mo.look {w : World} {b n : Nat} {M : Gm → Int} (h : Mo w b n M) (g : Gm) (hg : GmOk g) : (Instr.lookup 42 (.map (some b)) (gmV g) false).run Try.prog w = .ok (.int .i64 (M g)) w ∧ (Lit.int .i64 (M g)).wf = true := by
  obtain ⟨D, h, hM⟩ := h
  obtain ⟨c, hrun, hat, hw⟩ := h.lookup_int gmKeyed Try.underlying42 Try.underlying3 (by rfl) (gm_key g hg)
  have := (hM g hg).symm.trans hat
  simp only [DataW.lit.injEq, Lit.int.injEq, true_and] at this
  subst this
  exact ⟨hrun, hw⟩
theorem xr_block {w : World} {b : Nat} {es es' : Array MapEntry} {clock clock' : Nat} (hb : w.heap[b]? = some (.map es clock)) : Xr b b w (ChangeMaps.setBlock w b (.map es' clock')) :=
  ⟨rfl, rfl, rfl, by simp [ChangeMaps.setBlock], fun j _ hj _ => ChangeMaps.heap_setBlock_other hb _ hj⟩
theorem zero_int (u : World) : (zeroValue 3).run Try.prog u = .ok (.int .i64 0) u := by rfl
/-- 'm[k] = z' in its two steps. -/
theorem Mo.entry {w : World} {b n : Nat} {M : Gm → Int} (h : Mo w b n M) (hn : n + 1 < maxLen) (g : Gm) (hg : GmOk g) :
    ∃ st w1, (Instr.mapEntry 42 (.map (some b)) (gmV g)).run Try.prog w = .ok (.tuple #[.int .i64 (M g), goInt st]) w1 ∧ Mo w1 b (n + 1) M ∧ Xr b b w w1 ∧
      ∀ z, (Lit.int .i64 z).wf = true → ∃ w2, (Instr.entryStore 42 (.map (some b)) (goInt st) (.int .i64 z)).run Try.prog w1 = .ok () w2 ∧ Mo w2 b (n + 1) (fun x => if x = g then z else M x) ∧ Xr b b w1 w2 := by
  obtain ⟨hl, hwf⟩ := h.look g hg
  obtain ⟨D, hD, hM⟩ := h
  have hD2 := hD
  obtain ⟨es, clock, hb, F, hs, rfl⟩ := hD
  have hkey := gm_key g hg
  obtain ⟨v0, st, es1, clock1, hE, -, hS⟩ := WideElems.entry_then_store gmLaw Try.underlying42 zero_int hb F hkey
  have e0 := (entry_look gmLaw Try.underlying42 zero_int hb F hkey hE).symm.trans hl
  simp only [Result.ok.injEq, and_true] at e0
  subst e0
  have hU := entry_upd gmLaw Try.underlying42 zero_int hb F hkey hE
  have PUT : ∀ z, (Lit.int .i64 z).wf = true → ∀ w', (Instr.mapUpdate 42 (.map (some b)) (gmV g) (.int .i64 z)).run Try.prog w = .ok () w' → Mo w' b (n + 1) (fun x => if x = g then z else M x) := fun z hz w' hr => by
    obtain ⟨w'', hr2, ho, -⟩ := hD2.update gmKeyed Try.underlying42 (by omega) hkey (plainElem_int Try.underlying3 hz)
    rw [hr] at hr2
    cases hr2
    refine ⟨_, ho, fun x hx => ?_⟩
    by_cases hxg : x = g
    · subst hxg
      simp only [if_true]
      exact Maps.atKey_put_same (hD2.isMap) (gmKeyed.key hkey) _ _
    · simp only [if_neg hxg]
      rw [Maps.atKey_put_other, hM x hx]
      intro he
      apply hxg
      have hk2 := gm_key x hx
      rw [he] at hk2
      have := gmKeyed.inj hk2 hkey
      obtain ⟨a1, a2, a3, a4⟩ := x
      obtain ⟨b1, b2, b3, b4⟩ := g
      simp only [gmV, Value.agg.injEq, Array.mk.injEq, List.cons.injEq, Value.int.injEq, Value.string.injEq, true_and, and_true] at this
      obtain ⟨rfl, rfl, rfl, rfl⟩ := this
      rfl
  refine ⟨st, _, hE, ?_, xr_block hb, fun z hz => ?_⟩
  · have := PUT (M g) hwf _ hU
    have e : (fun x => if x = g then M g else M x) = M := by
      funext x
      by_cases hx : x = g
      · rw [if_pos hx, hx]
      · rw [if_neg hx]
    rw [e] at this
    exact this
  · have hb1 : (ChangeMaps.setBlock w b (.map es1 clock1)).heap[b]? = some (.map es1 clock1) := ChangeMaps.heap_setBlock_same hb _
    obtain ⟨es', clock', h1, h2⟩ := hS _ (.int .i64 z) hb1
    refine ⟨_, h1, ?_, xr_block hb1⟩
    have h3 := PUT z hz _ h2
    refine h3.kept ?_
    rw [ChangeMaps.heap_setBlock_same hb1, ChangeMaps.heap_setBlock_same hb]
end Go.Proofs.Ytldbmdalmhhpfaa
