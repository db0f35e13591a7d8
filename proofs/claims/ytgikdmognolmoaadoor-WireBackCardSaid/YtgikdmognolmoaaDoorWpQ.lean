/- The program's reader: fields. -/
import Derived.Test.YtgikdmognolmoaaDoorWpP
import Derived.Test.YtgikdmognolmoaaDoorWqAll
import Derived.Deep.RegionHeld3
namespace Go.Proofs.YtgikdmognolmoaaDoor
open Go.RowKit Go.Lib Go.Wq
set_option linter.unusedVariables false
set_option linter.unusedSimpArgs false
set_option maxRecDepth 100000

theorem infoPF : ∃ (i : TypeInfo) (z : Value), Tryd.prog.info? 53 = some i ∧ i.zero = some z ∧ i.size = 6 ∧ i.bytes = 72 := by
  refine ⟨_, _, rfl, rfl, ?_, ?_⟩ <;> kernel_rfl

theorem fillF_spots {w : World} {base : Nat} {t : TypeId} {g n cap : Nat} {fs : List Fld} (h : FillF w base t g n cap fs) (k : Nat) (hk : k < n) :
    (∀ j, w.frozen? ⟨g, j, none⟩ = false) ∧ ∃ v0 v1 v2 v3 v4 v5, w.cell? ⟨g, k * 6, none⟩ = some v0 ∧ w.cell? ⟨g, k * 6 + 1, none⟩ = some v1 ∧ w.cell? ⟨g, k * 6 + 2, none⟩ = some v2 ∧ w.cell? ⟨g, k * 6 + 3, none⟩ = some v3 ∧ w.cell? ⟨g, k * 6 + 4, none⟩ = some v4 ∧ w.cell? ⟨g, k * 6 + 5, none⟩ = some v5 := by
  obtain ⟨xs, ys, ho, hc⟩ := h
  have hl : (xs ++ ys).length = n * 6 := ho.1
  have e : ∀ j, j < n * 6 → ∃ v, w.cell? ⟨g, j, none⟩ = some v := fun j hj => ⟨(xs ++ ys)[j]'(by omega), (ho.cellAt j (by omega)).trans (List.getElem?_eq_getElem _)⟩
  refine ⟨fun j => ho.frozenAt j, ?_⟩
  obtain ⟨v0, e0⟩ := e (k * 6) (by omega)
  obtain ⟨v1, e1⟩ := e (k * 6 + 1) (by omega)
  obtain ⟨v2, e2⟩ := e (k * 6 + 2) (by omega)
  obtain ⟨v3, e3⟩ := e (k * 6 + 3) (by omega)
  obtain ⟨v4, e4⟩ := e (k * 6 + 4) (by omega)
  obtain ⟨v5, e5⟩ := e (k * 6 + 5) (by omega)
  exact ⟨v0, v1, v2, v3, v4, v5, e0, e1, e2, e3, e4, e5⟩
theorem Kept.grown {rb : Nat} {w w' : World} (h : Kept (fun k => k = rb) w w') : w.grownBy w' (some rb) := ⟨h.os, h.tape, h.output, h.size, fun k hk hne => h.block k hk (fun e => hne (by rw [e]))⟩
theorem kept_new {S : Nat → Prop} {w w' : World} (h : Kept S w w') (a : Addr) (v : Value) (ha : w.heap.size ≤ a.block) : Kept S w (w'.setCell a v) :=
  ⟨h.os, h.tape, h.output, by simpa [World.setCell] using h.size, fun k hk hn => by rw [Below.heap_setCell _ _ _ _ (by omega), h.block k hk hn]⟩
/-- An item's box. -/
abbrev IPx (c : Int) (ia : Option Addr) (n ic : Nat) : Obj := .cells #[.int .u8 c, .slice ia n ic] 74
theorem box_kept (rb : Nat) (wr : World) (c : Int) (ia : Option Addr) (n ic : Nat) : Kept (fun k => k = rb) wr (wr.alloc (IPx c ia n ic)) := Kept.of_below ((Below.refl _ _).alloc (Nat.le_refl _) _)

set_option maxHeartbeats 4000000 in
theorem pfields_any (rb : Nat) (s : ByteArray) (its : List It) (HO : ∀ it ∈ its, POneSays rb s it) : PAllSays rb s its := by
  intro p ia ic S w H hs h256 hok hsm hits hS hrb
  have hl : s.data.toList.length = s.size := Array.length_toList
  obtain ⟨i0, z0, hi, hz0, hz1, hz2⟩ := infoPF
  have H63 : Hid (its.length ≤ maxLen) := Lib.hid (by unfold maxLen; omega)
  have H48 : Hid (i0.bytes * its.length ≤ 281474976710656) := Lib.hid (by rw [hz2]; omega)
  have HITS := Lib.hid hits
  have HS := Lib.hid hS
  have HO2 := Lib.hid HO
  have HR := Lib.hid H
  clear hits hS HO H
  go_enter Tryd.func18, Tryd.ntmps18
  go_wp2_with (at_make; refine wpList_make_full _ rfl _ _ 22 rfl w.heap.size 53 i0 _ 6 Tryd.underlying22 hi hz0 hz1 .i64 .i64 its.length its.length its.length rfl rfl rfl rfl H48.out H63.out (Nat.le_refl _) ?_; intro w1 hown hg; have HOwn := Lib.hid hown; have HG := Lib.hid hg; clear hown hg)
  have hw1s := HG.out.size
  have hst := d_store
  have HK1 : Hid (Kept (fun k => k = rb) w w1) := Lib.hid ⟨HG.out.os, HG.out.tape, HG.out.output, HG.out.size, fun k hk _ => HG.out.block k hk (by simp)⟩
  have HF1 : Hid (FillF w1 w.heap.size 53 w.heap.size its.length its.length []) := Lib.hid ⟨[], _, HOwn.out, .nil⟩
  have HR1 := Lib.hid (HR.out.kept (HG.out.block rb hrb (by simp)))
  have hlt1 : w.heap.size < w1.heap.size := (HOwn.out.lt w.heap.size rfl).2
  clear HOwn HG HR
  generalize hB0 : w.heap.size = b0 at *
  go_loopw [13] (fun v wr => ∃ (P : Nat) (fs : List Fld), v = .int .i64 ((fs.length : Nat) : Int) ∧ fs.length ≤ its.length ∧ Rd wr rb s P ∧ Kept (fun k => k = rb) w wr ∧ FillF wr b0 53 b0 its.length its.length fs ∧ b0 < wr.heap.size ∧ rdAll s.data.toList its p = R.pre fs (rdAll s.data.toList (its.drop fs.length) P)) (fun v _ => its.length - (intOf v).toNat)
  case atStart => exact ⟨p, [], rfl, Nat.zero_le _, HR1.out, HK1.out, HF1.out, hlt1, by rw [R.pre_nil]; rfl⟩
  case round =>
    obtain ⟨P, fs, rfl, hkn, hr, hkp, hfill, hsz, hrd⟩ := hrel
    have HKp := Lib.hid hkp
    have HRD := Lib.hid hrd
    have HFill := Lib.hid hfill
    by_cases hk : fs.length < its.length
    · have hki : ((fs.length : Nat) : Int) < (its.length : Int) := by omega
      have hk0 : (0 : Int) ≤ ((fs.length : Nat) : Int) := by omega
      have hits2 : ItsZ wr S its ia its.length := ItsZ.kept (fun k hk => hkp.block k (by have := (HS.out k hk).1; omega) (HS.out k hk).2) (fun k hk => hk) _ _ _ HITS.out
      obtain ⟨bi, oi, rfl, hat⟩ := hits2.at fs.length hk
      obtain ⟨hSb, hi0, a1, n1, cc1, hi1, hin⟩ := hat.all
      have hbi := HS.out _ hSb
      have hw1 : IntKind.i64.wrap (((fs.length : Nat) : Int) + 1) = ((fs.length : Nat) : Int) + 1 := by go_arith
      have HC := Lib.hid (fun (W : World) (hW : Kept (fun k => k = rb) wr W) (hr' : Rd W rb s P) => HO2.out its[fs.length] (List.getElem_mem hk) P a1 n1 cc1 S W hr' hs (hok _ (List.getElem_mem hk)) (hsm _ (List.getElem_mem hk)) (ItsZ.kept (fun k hk2 => hW.block k (by have := (HS.out k hk2).1; omega) (HS.out k hk2).2) (fun k hk => hk) _ _ _ hin) (fun k hk => ⟨by have := (HS.out k hk).1; have := hW.size; omega, (HS.out k hk).2⟩) (by have := hW.size; omega))
      have hbx := box_kept rb wr its[fs.length].code a1 n1 cc1
      have HC2 := Lib.hid (HC.out _ hbx (hr.kept (((Below.refl _ _).alloc (Nat.le_refl _) _).block rb (by have := hkp.size; omega))))
      have hbs : (wr.alloc (IPx its[fs.length].code a1 n1 cc1)).heap.size = wr.heap.size + 1 := by simp
      have hkd : its.drop fs.length = its[fs.length] :: its.drop (fs.length + 1) := List.drop_eq_getElem_cons hk
      clear hkp hrd hfill hits2 hat hin hr HC
      generalize hit : its[fs.length] = it at *
      go_wp2_with fail
      refine HC2.out.mono ?_
      rintro e w3 ⟨hk3, hcs⟩
      have HK3 := Lib.hid (hbx.trans hk3)
      have hs3 : wr.heap.size + 1 ≤ w3.heap.size := by have := hk3.size; omega
      have HF3 := Lib.hid (HFill.out.kept HK3.out.grown (fun k hk => by injection hk with hk; omega))
      clear hk3 hbx HC2
      cases hg : rdOne s.data.toList it P with
      | bad er fr =>
        rw [hg] at hcs
        obtain ⟨pb, rfl, hd⟩ := hcs
        have HD := Lib.hid hd
        have HX : Hid (rdAll s.data.toList its p = .bad er fr) := Lib.hid (by rw [HRD.out, hkd, rdAll_fall hg])
        clear hd hg
        go_wp2_with fail
        refine ⟨rfl, HKp.out.trans HK3.out, ?_⟩
        rw [HX.out]
        exact ⟨pb, rfl, by have h1 := HD.out.1; have h2 := HKp.out.size; omega, HD.out.2⟩
      | ok x Q =>
        rw [hg] at hcs
        obtain ⟨v, rfl, ⟨u, i, f, bb, t, l, ra, rn, rc, rfl, rfl, hrows⟩, hr3⟩ := hcs
        have HROWS := Lib.hid hrows
        have HR3 := Lib.hid hr3
        have HX : Hid (rdAll s.data.toList its p = R.pre (fs ++ [.mk u i f bb t.data.toList l]) (rdAll s.data.toList (its.drop (fs.length + 1)) Q)) := Lib.hid (by rw [HRD.out, hkd, rdAll_next hg])
        obtain ⟨hfz, v0, v1, v2, v3, v4, v5, g0, g1, g2, g3, g4, g5⟩ := fillF_spots HF3.out fs.length hk
        have z0 := hfz (fs.length * 6)
        have z1 := hfz (fs.length * 6 + 1)
        have z2 := hfz (fs.length * 6 + 2)
        have z3 := hfz (fs.length * 6 + 3)
        have z4 := hfz (fs.length * 6 + 4)
        have z5 := hfz (fs.length * 6 + 5)
        clear hrows hr3 hg hfz
        go_wp2_with fail
        have hl8 : (fs ++ [Fld.mk u i f bb t.data.toList l]).length = fs.length + 1 := by simp
        have HT := HF3.out.next hk u i f bb t l ra rn rc (RowsS.kept (w := w3) (fun k hk => rfl) (fun k hk => ⟨by have := hk.1; omega, hk.2, fun e => by simp [Value.ownBlock] at e; have := hk.1; omega⟩) _ _ _ HROWS.out)
        have hne : rb ≠ b0 := by omega
        have hp : ∀ (w' : World) (o : Nat) (v : Value), Kept (fun k => k = rb) w w' → Kept (fun k => k = rb) w (w'.setCell ⟨b0, o, none⟩ v) := fun w' o v h => kept_new h _ _ (by rw [hB0]; exact Nat.le_refl _)
        have hq : ∀ (w' : World) (o : Nat) (v : Value), Rd w' rb s Q → Rd (w'.setCell ⟨b0, o, none⟩ v) rb s Q := fun w' o v h => h.kept (Below.heap_setCell _ _ _ _ hne)
        have hz : ∀ (w' : World) (o : Nat) (v : Value), b0 < w'.heap.size → b0 < (w'.setCell ⟨b0, o, none⟩ v).heap.size := fun w' o v h => by simpa [World.setCell] using h
        refine ⟨⟨Q, fs ++ [.mk u i f bb t.data.toList l], by rw [hl8]; go_num, by omega, hq _ _ _ (hq _ _ _ (hq _ _ _ (hq _ _ _ (hq _ _ _ (hq _ _ _ HR3.out))))), hp _ _ _ (hp _ _ _ (hp _ _ _ (hp _ _ _ (hp _ _ _ (hp _ _ _ (HKp.out.trans HK3.out)))))), HT, hz _ _ _ (hz _ _ _ (hz _ _ _ (hz _ _ _ (hz _ _ _ (hz _ _ _ (by omega)))))), by rw [hl8]; exact HX.out⟩, by simp [intOf]; omega⟩
    · have hki : ¬ ((fs.length : Nat) : Int) < (its.length : Int) := by omega
      have hfn : fs.length = its.length := by omega
      have HFin : Hid (PAllEnds rb s its p w (.returned (.slice (some ⟨b0, 0, none⟩) its.length its.length)) wr) := Lib.hid ⟨hkp, by rw [hrd, List.drop_eq_nil_of_le (by omega), rdAll_end]; exact ⟨_, its.length, by rw [hfn], by rw [hB0]; exact hfill.all hfn, hr⟩⟩
      clear hkp hrd hfill hr
      go_wp2_with fail
      go_ret
      exact HFin.out
end Go.Proofs.YtgikdmognolmoaaDoor
