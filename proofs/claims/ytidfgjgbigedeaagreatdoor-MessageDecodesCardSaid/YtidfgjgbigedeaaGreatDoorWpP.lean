/- The program's reader: a list. The program's reader: fields. The program's reader: one field, letter by letter. The program's reader: one field, the letters i, f, b. The program's reader: one field, a text. -/
import Derived.Test.YtidfgjgbigedeaaGreatDoorWpO
import Derived.Test.YtidfgjgbigedeaaGreatDoorWsC
import Derived.Test.YtidfgjgbigedeaaGreatDoorWqAll
import Derived.Deep.RegionHeld3
section
namespace Go.Proofs.YtidfgjgbigedeaaGreatDoor
open Go.RowKit Go.Lib Go.Wq
set_option linter.unusedVariables false
set_option linter.unusedSimpArgs false
set_option maxRecDepth 100000

/-- How reading fields ends, in the program. -/
def PAllEnds (rb : Nat) (s : ByteArray) (its : List It) (p : Nat) (w : World) (e : Ending) (w' : World) : Prop :=
  Kept (fun k => k = rb) w w' ∧ match rdAll s.data.toList its p with
    | .ok l q => ∃ (a : Option Addr) (c : Nat), e = .returned (.slice a l.length c) ∧ FldsS w' (New w.heap.size w') l a l.length ∧ Rd w' rb s q ∧ l.length ≤ c
    | .bad er fr => Dies er fr w e w'
def POneEnds (rb : Nat) (s : ByteArray) (it : It) (p : Nat) (w : World) (e : Ending) (w' : World) : Prop :=
  Kept (fun k => k = rb) w w' ∧ match rdOne s.data.toList it p with
    | .ok x q => ∃ v, e = .returned v ∧ FV w' (New w.heap.size w') v x ∧ Rd w' rb s q
    | .bad er fr => Dies er fr w e w'
def PAllSays (rb : Nat) (s : ByteArray) (its : List It) : Prop := ∀ (p : Nat) (ia : Option Addr) (ic : Nat) (S : Nat → Prop) (w : World), Rd w rb s p → s.size ≤ 65536 → its.length ≤ 256 → (∀ x ∈ its, x.Ok) → (∀ x ∈ its, x.Sm) → ItsZ w S its ia its.length → (∀ k, S k → k < w.heap.size ∧ k ≠ rb) → rb < w.heap.size →
  Calls Tryz.prog 85 #[.pointer (some ⟨rb, 0, none⟩), .slice ia its.length ic] w (PAllEnds rb s its p w)
def POneSays (rb : Nat) (s : ByteArray) (it : It) : Prop := ∀ (p : Nat) (ia : Option Addr) (n ic : Nat) (S : Nat → Prop) (w : World), Rd w rb s p → s.size ≤ 65536 → it.Ok → it.Sm → ItsZ w S it.inner ia n → (∀ k, S k → k < w.heap.size ∧ k ≠ rb) → rb < w.heap.size →
  Calls Tryz.prog 109 #[.pointer (some ⟨rb, 0, none⟩), .agg #[.int .u8 it.code, .slice ia n ic]] w (POneEnds rb s it p w)

/-- How reading a list's rows ends. -/
def PListEnds (rb : Nat) (s : ByteArray) (its : List It) (n p : Nat) (w : World) (e : Ending) (w' : World) : Prop :=
  Kept (fun k => k = rb) w w' ∧ match rdRows (fun p => rdAll s.data.toList its p) n p with
    | .ok l q => ∃ (a : Option Addr) (c : Nat), e = .returned (.slice a l.length c) ∧ RowsS w' (New w.heap.size w') l a l.length ∧ Rd w' rb s q
    | .bad er fr => Dies er fr w e w'
theorem infoL' : ∃ (i : TypeInfo) (z : Value), Tryz.prog.info? 45 = some i ∧ i.zero = some z ∧ i.size = 1 ∧ i.bytes = 24 ∧ z.cells.size = 1 := by
  refine ⟨_, _, rfl, rfl, ?_, ?_, ?_⟩ <;> kernel_rfl

theorem own_slice' {w : World} {base e size : Nat} {v : Value} {n : Nat} {xs : List Value} (h : w.ownsRow base e size v n xs) : ∃ (a : Option Addr) (c : Nat), v = .slice a n c := by
  rcases h.2 with ⟨rfl, hn⟩ | ⟨g, cap, cur, rfl, _⟩
  · exact ⟨none, 0, by rw [hn]⟩
  · exact ⟨some ⟨g, 0, none⟩, cap, rfl⟩

set_option maxHeartbeats 4000000 in
theorem plist_any (rb : Nat) (s : ByteArray) (its : List It) (HA : PAllSays rb s its) (hne : its ≠ []) (h256 : its.length ≤ 256) (hok : ∀ x ∈ its, x.Ok) (hsm : ∀ x ∈ its, x.Sm) (n p : Nat) (hn : n < 18446744073709551616) (ia : Option Addr) (ic : Nat) (S : Nat → Prop) (w : World)
    (H : Rd w rb s p) (hs : s.size ≤ 65536) (hits : ItsZ w S its ia its.length) (hS : ∀ k, S k → k < w.heap.size ∧ k ≠ rb) (hrb : rb < w.heap.size) :
    Calls Tryz.prog 127 #[.pointer (some ⟨rb, 0, none⟩), .int .u64 (n : Int), .slice ia its.length ic] w (PListEnds rb s its n p w) := by
  have hl : s.data.toList.length = s.size := Array.length_toList
  obtain ⟨i0, z0, hi, hz0, hz1, hz2, hz3⟩ := infoL'
  have HCall := Lib.hid (fun (P : Nat) (W : World) (hr : Rd W rb s P) (hk : Kept (fun k => k = rb) w W) =>
    HA P ia ic S W hr hs h256 hok hsm (ItsZ.kept (fun k hk2 => hk.block k (hS k hk2).1 (hS k hk2).2) (fun k h => h) _ _ _ hits) (fun k hk2 => ⟨Nat.lt_of_lt_of_le (hS k hk2).1 hk.size, (hS k hk2).2⟩) (Nat.lt_of_lt_of_le hrb hk.size))
  have HOn := Lib.hid (fun (P Q : Nat) (x : List Fld) (h : rdAll s.data.toList its P = .ok x Q) => all_on (s := s.data.toList) (by rw [hl]; omega) hne hok h)
  have HH := Lib.hid H
  clear HA H hits hS hok hsm
  go_enter Tryz.func127, Tryz.ntmps127
  go_wp2_with fail
  go_loopw [7, 9] (fun v i wr => ∃ (P : Nat) (rows : List (List Fld)) (xs : List Value) (ra : Option Addr) (rc : Nat), v = .slice ra rows.length rc ∧ i = .int .u64 ((rows.length : Nat) : Int) ∧ rows.length ≤ n ∧ rows.length ≤ P ∧ P ≤ s.size ∧ Rd wr rb s P ∧ Kept (fun k => k = rb) w wr ∧
      wr.ownsRow w.heap.size 45 1 (.slice ra rows.length rc) rows.length xs ∧ RCellsS wr (Mine w.heap.size wr (.slice ra rows.length rc)) xs rows ∧ rdRows (fun p => rdAll s.data.toList its p) n p = R.pre rows (rdRows (fun p => rdAll s.data.toList its p) (n - rows.length) P)) (fun _ i _ => n - (intOf i).toNat)
  case atStart => exact ⟨p, [], [], none, 0, rfl, rfl, Nat.zero_le _, Nat.zero_le _, HH.out.le, HH.out, Kept.refl _ _, World.ownsRow_nil _ _ _ _, .nil, by rw [R.pre_nil]; rfl⟩
  case round =>
    obtain ⟨P, rows, xs, ra, rc, rfl, rfl, hkn, hkP, hPs, hr, hkp, hown, hcells, hrd⟩ := hrel
    have HKp := Lib.hid hkp
    have HRD := Lib.hid hrd
    have HOwn := Lib.hid hown
    have HCells := Lib.hid hcells
    have hsz := hkp.size
    by_cases hk : rows.length < n
    · have hki : ((rows.length : Nat) : Int) < (n : Int) := by omega
      have HC := Lib.hid (HCall.out P wr hr hkp)
      clear hkp hrd hown hcells hr
      go_wp2_with fail
      refine HC.out.mono ?_
      rintro e w3 ⟨hk3, hcs⟩
      have HK3 := Lib.hid hk3
      have hs3 := hk3.size
      clear hk3
      cases hg : rdAll s.data.toList its P with
      | bad er fr =>
        rw [hg] at hcs
        obtain ⟨pb, rfl, hd⟩ := hcs
        have HD := Lib.hid hd
        have HG := Lib.hid hg
        clear hd hg
        go_wp2_with fail
        refine ⟨rfl, HKp.out.trans HK3.out, ?_⟩
        rw [HRD.out, show n - rows.length = n - (rows.length + 1) + 1 by omega, rdRows_fall HG.out]
        exact ⟨pb, rfl, by have := HD.out.1; omega, HD.out.2⟩
      | ok l Q =>
        rw [hg] at hcs
        obtain ⟨la, lc, rfl, hfl, hr3, -⟩ := hcs
        have HFL := Lib.hid hfl
        have HR3 := Lib.hid hr3
        have HG := Lib.hid hg
        obtain ⟨hq1, hq2⟩ := HOn.out P Q l hg
        have HQ2 : Hid (Q ≤ s.size) := Lib.hid (by rw [hl] at hq2; exact hq2)
        clear hfl hr3 hg hq2
        have HG6 : wr.grownBy w3 (some rb) := ⟨HK3.out.os, HK3.out.tape, HK3.out.output, HK3.out.size, fun k hk' hne => HK3.out.block k hk' (fun e => hne (by rw [e]))⟩
        have HLT : Hid (∀ k, Value.ownBlock (.slice ra rows.length rc) = some k → w.heap.size ≤ k ∧ k < wr.heap.size) := Lib.hid HOwn.out.lt
        have HO6 := Lib.hid (show w3.ownsRow w.heap.size 45 1 (.slice ra rows.length rc) rows.length xs from HOwn.out.kept HG6 (by
          cases hob : Value.ownBlock (.slice ra rows.length rc) with
          | none => exact Or.inl rfl
          | some k => exact Or.inr (fun e => by injection e with e; have := (HLT.out k hob).1; omega)))
        have HC6 := Lib.hid (show RCellsS w3 (Mine w.heap.size w3 (.slice ra rows.length rc)) xs rows from HCells.out.kept (fun k hk => HG6.block k hk.2.1 (fun e => by injection e with e; have := hk.1; omega)) (fun k hk => ⟨hk.1, by have := hk.2.1; omega, hk.2.2⟩))
        have H63 : Hid (rows.length + 1 ≤ maxLen) := Lib.hid (by unfold maxLen; omega)
        have H47 : Hid ((rows.length + 1) * 24 ≤ 140737488355328) := Lib.hid (by omega)
        have HN7 : Hid (FldsS w3 (Mine w.heap.size w3 (.slice ra rows.length rc)) l la l.length) := Lib.hid (FldsS.kept (fun k hk => rfl) (fun k hk => ⟨by have := hk.1; omega, hk.2, fun e => by have := (HLT.out k e).2; have := hk.1; omega⟩) _ _ _ HFL.out)
        have HCS : Hid (∀ (j : Nat) (u : Value), ([.slice la l.length lc] : List Value)[j]? = some u → (w3.alloc (.cells #[.slice la l.length lc] 45)).cell? ((⟨w3.heap.size, 0, none⟩ : Addr).add j) = some u) := Lib.hid (by
          intro j u hj
          match j with
          | 0 => simp at hj; subst hj; simp [Addr.add]
          | j + 1 => simp at hj)
        have hwn : IntKind.u64.wrap (((rows.length : Nat) : Int) + 1) = ((rows.length : Nat) : Int) + 1 := by rw [IntKind.wrap_u64]; omega
        clear HG6
        go_wp2_with (at_builtin; (refine wpList_append_vals _ rfl _ _ 55 rfl w.heap.size 45 i0 z0 1 24 Tryz.underlying55 hi hz0 hz1 hz2 hz3 (by decide) (.slice ra rows.length rc) rows.length xs (by rfl) (HO6.out.alloc _) ⟨w3.heap.size, 0, none⟩ 1 1 [.slice la l.length lc] rfl rfl HCS.out (by intro u hu; simp at hu; subst hu; rfl) H63.out H47.out (by simp; omega) ?_); intro v' w4 hown hg; obtain ⟨ra', rc', rfl⟩ := own_slice' hown; have HO7 := Lib.hid hown; have HG7 := Lib.hid hg; clear hown hg)
        have HG4 : Grew w3 w4 (.slice ra rows.length rc) (.slice ra' (rows.length + 1) rc') := (Grew.alloc w3 _ _).trans HG7.out
        have HC8 := (HC6.out.grew HG4).snoc lc (FldsS.kept (fun k hk => HG4.g.block k hk.2.1 (fun e => hk.2.2 e.symm)) (fun k hk => ⟨hk.1, Nat.lt_of_lt_of_le hk.2.1 HG4.g.size, HG4.other hk.2.1 hk.2.2⟩) _ _ _ HN7.out)
        have hl8 : (rows ++ [l]).length = rows.length + 1 := by simp
        have hr4 : Rd w4 rb s Q := HR3.out.kept (HG4.g.block rb (by omega) (fun e => by have := (HLT.out rb e.symm).1; omega))
        have hk4 : Kept (fun k => k = rb) w w4 := ⟨HG4.g.os.trans (HK3.out.os.trans HKp.out.os), HG4.g.tape.trans (HK3.out.tape.trans HKp.out.tape), HG4.g.output.trans (HK3.out.output.trans HKp.out.output), by have := HG4.g.size; omega, fun k hk hne => by rw [HG4.g.block k (by omega) (fun e => by have := (HLT.out k e.symm).1; omega), (HKp.out.trans HK3.out).block k hk hne]⟩
        · refine ⟨⟨Q, rows ++ [l], xs ++ [.slice la l.length lc], ra', rc', by rw [hl8], by rw [hl8]; go_num, by omega, by omega, HQ2.out, hr4, hk4, by rw [hl8]; exact HO7.out, by rw [hl8]; exact HC8, ?_⟩, ?_⟩
          · rw [HRD.out, hl8, show n - rows.length = n - (rows.length + 1) + 1 by omega, rdRows_next HG.out]
          · simp [intOf]; omega
    · have hki : ¬ ((rows.length : Nat) : Int) < (n : Int) := by omega
      obtain ⟨a', c', hv, hrows⟩ := own_rows hown hcells
      injection hv with hv1 hv2 hv3
      subst hv1
      clear hv2 hv3
      have HFin : Hid (PListEnds rb s its n p w (.returned (.slice ra rows.length rc)) wr) := Lib.hid ⟨hkp, by rw [hrd, show n - rows.length = 0 by omega, rdRows_end]; exact ⟨ra, rc, rfl, hrows, hr⟩⟩
      clear hkp hrd hown hcells hr hrows
      go_wp2_with fail
      go_ret
      exact HFin.out
end Go.Proofs.YtidfgjgbigedeaaGreatDoor
end

section
namespace Go.Proofs.YtidfgjgbigedeaaGreatDoor
open Go.RowKit Go.Lib Go.Wq
set_option linter.unusedVariables false
set_option linter.unusedSimpArgs false
set_option maxRecDepth 100000

theorem infoPF : ∃ (i : TypeInfo) (z : Value), Tryz.prog.info? 57 = some i ∧ i.zero = some z ∧ i.size = 6 ∧ i.bytes = 72 := by
  refine ⟨_, _, rfl, rfl, ?_, ?_⟩ <;> kernel_rfl

theorem fillF_spots {w : World} {base : Nat} {t : TypeId} {g n cap : Nat} {fs : List Fld} (h : FillF w base t g n cap fs) (k : Nat) (hk : k < n) :
    (∀ j, w.frozen? ⟨g, j, none⟩ = false) ∧ ∃ v0 v1 v2 v3 v4 v5, w.cell? ⟨g, k * 6, none⟩ = some v0 ∧ w.cell? ⟨g, k * 6 + 1, none⟩ = some v1 ∧ w.cell? ⟨g, k * 6 + 2, none⟩ = some v2 ∧ w.cell? ⟨g, k * 6 + 3, none⟩ = some v3 ∧ w.cell? ⟨g, k * 6 + 4, none⟩ = some v4 ∧ w.cell? ⟨g, k * 6 + 5, none⟩ = some v5 := by
  obtain ⟨xs, ys, ho, hc⟩ := h
  have hl : (xs ++ ys).length = n * 6 := ho.1
  have e : ∀ j, j < n * 6 → ∃ v, w.cell? ⟨g, j, none⟩ = some v := fun j hj => ⟨(xs ++ ys)[j]'(by omega), (ho.cellAt j (by omega)).trans (List.getElem?_eq_getElem _)⟩
  refine ⟨fun j => ho.frozenAt j, ?_⟩
  obtain ⟨v0, e0⟩ := e (k * 6) (by omega)
  obtain ⟨v1, e1⟩ := e (k * 6 + 1) (by omega)
  obtain ⟨v2, e2⟩ := e (k * 6 + 2) (by omega)
  obtain ⟨v3, e3⟩ := e (k * 6 + 3) (by omega)
  obtain ⟨v4, e4⟩ := e (k * 6 + 4) (by omega)
  obtain ⟨v5, e5⟩ := e (k * 6 + 5) (by omega)
  exact ⟨v0, v1, v2, v3, v4, v5, e0, e1, e2, e3, e4, e5⟩
theorem Kept.grown {rb : Nat} {w w' : World} (h : Kept (fun k => k = rb) w w') : w.grownBy w' (some rb) := ⟨h.os, h.tape, h.output, h.size, fun k hk hne => h.block k hk (fun e => hne (by rw [e]))⟩
theorem kept_new {S : Nat → Prop} {w w' : World} (h : Kept S w w') (a : Addr) (v : Value) (ha : w.heap.size ≤ a.block) : Kept S w (w'.setCell a v) :=
  ⟨h.os, h.tape, h.output, by simpa [World.setCell] using h.size, fun k hk hn => by rw [Below.heap_setCell _ _ _ _ (by omega), h.block k hk hn]⟩
/-- An item's box. -/
abbrev IPx (c : Int) (ia : Option Addr) (n ic : Nat) : Obj := .cells #[.int .u8 c, .slice ia n ic] 95
theorem box_kept (rb : Nat) (wr : World) (c : Int) (ia : Option Addr) (n ic : Nat) : Kept (fun k => k = rb) wr (wr.alloc (IPx c ia n ic)) := Kept.of_below ((Below.refl _ _).alloc (Nat.le_refl _) _)

set_option maxHeartbeats 4000000 in
theorem pfields_any (rb : Nat) (s : ByteArray) (its : List It) (HO : ∀ it ∈ its, POneSays rb s it) : PAllSays rb s its := by
  intro p ia ic S w H hs h256 hok hsm hits hS hrb
  have hl : s.data.toList.length = s.size := Array.length_toList
  obtain ⟨i0, z0, hi, hz0, hz1, hz2⟩ := infoPF
  have H63 : Hid (its.length ≤ maxLen) := Lib.hid (by unfold maxLen; omega)
  have H48 : Hid (i0.bytes * its.length ≤ 281474976710656) := Lib.hid (by rw [hz2]; omega)
  have HITS := Lib.hid hits
  have HS := Lib.hid hS
  have HO2 := Lib.hid HO
  have HR := Lib.hid H
  clear hits hS HO H
  go_enter Tryz.func85, Tryz.ntmps85
  go_wp2_with (at_make; refine wpList_make_full _ rfl _ _ 45 rfl w.heap.size 57 i0 _ 6 Tryz.underlying45 hi hz0 hz1 .i64 .i64 its.length its.length its.length rfl rfl rfl rfl H48.out H63.out (Nat.le_refl _) ?_; intro w1 hown hg; have HOwn := Lib.hid hown; have HG := Lib.hid hg; clear hown hg)
  have hw1s := HG.out.size
  have hst := d_store
  have HK1 : Hid (Kept (fun k => k = rb) w w1) := Lib.hid ⟨HG.out.os, HG.out.tape, HG.out.output, HG.out.size, fun k hk _ => HG.out.block k hk (by simp)⟩
  have HF1 : Hid (FillF w1 w.heap.size 57 w.heap.size its.length its.length []) := Lib.hid ⟨[], _, HOwn.out, .nil⟩
  have HR1 := Lib.hid (HR.out.kept (HG.out.block rb hrb (by simp)))
  have hlt1 : w.heap.size < w1.heap.size := (HOwn.out.lt w.heap.size rfl).2
  clear HOwn HG HR
  generalize hB0 : w.heap.size = b0 at *
  go_loopw [13] (fun v wr => ∃ (P : Nat) (fs : List Fld), v = .int .i64 ((fs.length : Nat) : Int) ∧ fs.length ≤ its.length ∧ Rd wr rb s P ∧ Kept (fun k => k = rb) w wr ∧ FillF wr b0 57 b0 its.length its.length fs ∧ b0 < wr.heap.size ∧ rdAll s.data.toList its p = R.pre fs (rdAll s.data.toList (its.drop fs.length) P)) (fun v _ => its.length - (intOf v).toNat)
  case atStart => exact ⟨p, [], rfl, Nat.zero_le _, HR1.out, HK1.out, HF1.out, hlt1, by rw [R.pre_nil]; rfl⟩
  case round =>
    obtain ⟨P, fs, rfl, hkn, hr, hkp, hfill, hsz, hrd⟩ := hrel
    have HKp := Lib.hid hkp
    have HRD := Lib.hid hrd
    have HFill := Lib.hid hfill
    by_cases hk : fs.length < its.length
    · have hki : ((fs.length : Nat) : Int) < (its.length : Int) := by omega
      have hk0 : (0 : Int) ≤ ((fs.length : Nat) : Int) := by omega
      have hits2 : ItsZ wr S its ia its.length := ItsZ.kept (fun k hk => hkp.block k (by have := (HS.out k hk).1; omega) (HS.out k hk).2) (fun k hk => hk) _ _ _ HITS.out
      obtain ⟨bi, oi, rfl, hat⟩ := hits2.at fs.length hk
      obtain ⟨hSb, hi0, a1, n1, cc1, hi1, hin⟩ := hat.all
      have hbi := HS.out _ hSb
      have hw1 : IntKind.i64.wrap (((fs.length : Nat) : Int) + 1) = ((fs.length : Nat) : Int) + 1 := by go_arith
      have HC := Lib.hid (fun (W : World) (hW : Kept (fun k => k = rb) wr W) (hr' : Rd W rb s P) => HO2.out its[fs.length] (List.getElem_mem hk) P a1 n1 cc1 S W hr' hs (hok _ (List.getElem_mem hk)) (hsm _ (List.getElem_mem hk)) (ItsZ.kept (fun k hk2 => hW.block k (by have := (HS.out k hk2).1; omega) (HS.out k hk2).2) (fun k hk => hk) _ _ _ hin) (fun k hk => ⟨by have := (HS.out k hk).1; have := hW.size; omega, (HS.out k hk).2⟩) (by have := hW.size; omega))
      have hbx := box_kept rb wr its[fs.length].code a1 n1 cc1
      have HC2 := Lib.hid (HC.out _ hbx (hr.kept (((Below.refl _ _).alloc (Nat.le_refl _) _).block rb (by have := hkp.size; omega))))
      have hbs : (wr.alloc (IPx its[fs.length].code a1 n1 cc1)).heap.size = wr.heap.size + 1 := by simp
      have hkd : its.drop fs.length = its[fs.length] :: its.drop (fs.length + 1) := List.drop_eq_getElem_cons hk
      clear hkp hrd hfill hits2 hat hin hr HC
      generalize hit : its[fs.length] = it at *
      go_wp2_with fail
      refine HC2.out.mono ?_
      rintro e w3 ⟨hk3, hcs⟩
      have HK3 := Lib.hid (hbx.trans hk3)
      have hs3 : wr.heap.size + 1 ≤ w3.heap.size := by have := hk3.size; omega
      have HF3 := Lib.hid (HFill.out.kept HK3.out.grown (fun k hk => by injection hk with hk; omega))
      clear hk3 hbx HC2
      cases hg : rdOne s.data.toList it P with
      | bad er fr =>
        rw [hg] at hcs
        obtain ⟨pb, rfl, hd⟩ := hcs
        have HD := Lib.hid hd
        have HX : Hid (rdAll s.data.toList its p = .bad er fr) := Lib.hid (by rw [HRD.out, hkd, rdAll_fall hg])
        clear hd hg
        go_wp2_with fail
        refine ⟨rfl, HKp.out.trans HK3.out, ?_⟩
        rw [HX.out]
        exact ⟨pb, rfl, by have h1 := HD.out.1; have h2 := HKp.out.size; omega, HD.out.2⟩
      | ok x Q =>
        rw [hg] at hcs
        obtain ⟨v, rfl, ⟨u, i, f, bb, t, l, ra, rn, rc, rfl, rfl, hrows⟩, hr3⟩ := hcs
        have HROWS := Lib.hid hrows
        have HR3 := Lib.hid hr3
        have HX : Hid (rdAll s.data.toList its p = R.pre (fs ++ [.mk u i f bb t.data.toList l]) (rdAll s.data.toList (its.drop (fs.length + 1)) Q)) := Lib.hid (by rw [HRD.out, hkd, rdAll_next hg])
        obtain ⟨hfz, v0, v1, v2, v3, v4, v5, g0, g1, g2, g3, g4, g5⟩ := fillF_spots HF3.out fs.length hk
        have z0 := hfz (fs.length * 6)
        have z1 := hfz (fs.length * 6 + 1)
        have z2 := hfz (fs.length * 6 + 2)
        have z3 := hfz (fs.length * 6 + 3)
        have z4 := hfz (fs.length * 6 + 4)
        have z5 := hfz (fs.length * 6 + 5)
        clear hrows hr3 hg hfz
        go_wp2_with fail
        have hl8 : (fs ++ [Fld.mk u i f bb t.data.toList l]).length = fs.length + 1 := by simp
        have HT := HF3.out.next hk u i f bb t l ra rn rc (RowsS.kept (w := w3) (fun k hk => rfl) (fun k hk => ⟨by have := hk.1; omega, hk.2, fun e => by simp [Value.ownBlock] at e; have := hk.1; omega⟩) _ _ _ HROWS.out)
        have hne : rb ≠ b0 := by omega
        have hp : ∀ (w' : World) (o : Nat) (v : Value), Kept (fun k => k = rb) w w' → Kept (fun k => k = rb) w (w'.setCell ⟨b0, o, none⟩ v) := fun w' o v h => kept_new h _ _ (by rw [hB0]; exact Nat.le_refl _)
        have hq : ∀ (w' : World) (o : Nat) (v : Value), Rd w' rb s Q → Rd (w'.setCell ⟨b0, o, none⟩ v) rb s Q := fun w' o v h => h.kept (Below.heap_setCell _ _ _ _ hne)
        have hz : ∀ (w' : World) (o : Nat) (v : Value), b0 < w'.heap.size → b0 < (w'.setCell ⟨b0, o, none⟩ v).heap.size := fun w' o v h => by simpa [World.setCell] using h
        refine ⟨⟨Q, fs ++ [.mk u i f bb t.data.toList l], by rw [hl8]; go_num, by omega, hq _ _ _ (hq _ _ _ (hq _ _ _ (hq _ _ _ (hq _ _ _ (hq _ _ _ HR3.out))))), hp _ _ _ (hp _ _ _ (hp _ _ _ (hp _ _ _ (hp _ _ _ (hp _ _ _ (HKp.out.trans HK3.out)))))), HT, hz _ _ _ (hz _ _ _ (hz _ _ _ (hz _ _ _ (hz _ _ _ (hz _ _ _ (by omega)))))), by rw [hl8]; exact HX.out⟩, by simp [intOf]; omega⟩
    · have hki : ¬ ((fs.length : Nat) : Int) < (its.length : Int) := by omega
      have hfn : fs.length = its.length := by omega
      have HFin : Hid (PAllEnds rb s its p w (.returned (.slice (some ⟨b0, 0, none⟩) its.length its.length)) wr) := Lib.hid ⟨hkp, by rw [hrd, List.drop_eq_nil_of_le (by omega), rdAll_end]; exact ⟨_, its.length, by rw [hfn], by rw [hB0]; exact hfill.all hfn, hr, Nat.le_of_eq hfn⟩⟩
      clear hkp hrd hfill hr
      go_wp2_with fail
      go_ret
      exact HFin.out
end Go.Proofs.YtidfgjgbigedeaaGreatDoor
end

section
namespace Go.Proofs.YtidfgjgbigedeaaGreatDoor
open Go.RowKit Go.Lib Go.Wq
set_option linter.unusedVariables false
set_option linter.unusedSimpArgs false
set_option maxRecDepth 100000

abbrev IP0 (c : Int) (ia : Option Addr) (n ic : Nat) : Obj := .cells #[.int .u8 c, .slice ia n ic] 95
/-- What field has laid ahead of its switch. -/
structure LaidP (w W : World) (rb : Nat) (s : ByteArray) (p : Nat) (c : Int) (ia : Option Addr) (n ic : Nat) : Prop where
  i0 : W.cell? ⟨w.heap.size, 0, none⟩ = some (.int .u8 c)
  i1 : W.cell? ⟨w.heap.size, 1, none⟩ = some (.slice ia n ic)
  fd : F6 W (w.heap.size + 1) 0 0 0 false ⟨#[]⟩ none 0 0
  rd : Rd W rb s p
  bel : Below w.heap.size w W
  siz : W.heap.size = w.heap.size + 2
theorem laidP (w : World) (rb : Nat) (s : ByteArray) (p : Nat) (c : Int) (ia : Option Addr) (n ic : Nat) (H : Rd w rb s p) (hrb : rb < w.heap.size) : LaidP w ((w.alloc (IP0 c ia n ic)).alloc F00) rb s p c ia n ic := by
  have f1 := F6.first (w.alloc (IP0 c ia n ic)) 57
  simp only [World.size_alloc] at f1
  have hb : Below w.heap.size w ((w.alloc (IP0 c ia n ic)).alloc F00) := ((Below.refl _ w).alloc (Nat.le_refl _) _).alloc (by simp) _
  exact ⟨by simp [go_sem], by simp [go_sem], f1, H.kept (hb.block rb hrb), hb, by simp⟩
theorem Kept.from {S : Nat → Prop} {w W w' : World} (h : Kept S W w') (hb : Below w.heap.size w W) : Kept S w w' := (Kept.of_below hb).trans h
theorem Kept.put {S : Nat → Prop} {w w' : World} (h : Kept S w w') (a : Addr) (v : Value) (ha : w.heap.size ≤ a.block) : Kept S w (w'.setCell a v) :=
  ⟨h.os, h.tape, h.output, by simpa [World.setCell] using h.size, fun k hk hn => by rw [Below.heap_setCell _ _ _ _ (by omega), h.block k hk hn]⟩
/-- Six stores to a block that is new. -/
theorem Kept.set6 {S : Nat → Prop} {w w' : World} (h : Kept S w w') (b : Nat) (hb : w.heap.size ≤ b) (x0 x1 x2 x3 x4 x5 : Value) :
    Kept S w ((((((w'.setCell ⟨b, 0, none⟩ x0).setCell ⟨b, 1, none⟩ x1).setCell ⟨b, 2, none⟩ x2).setCell ⟨b, 3, none⟩ x3).setCell ⟨b, 4, none⟩ x4).setCell ⟨b, 5, none⟩ x5) :=
  (((((h.put _ _ hb).put _ _ hb).put _ _ hb).put _ _ hb).put _ _ hb).put _ _ hb
theorem heap6 (w : World) (b k : Nat) (hne : k ≠ b) (x0 x1 x2 x3 x4 x5 : Value) :
    ((((((w.setCell ⟨b, 0, none⟩ x0).setCell ⟨b, 1, none⟩ x1).setCell ⟨b, 2, none⟩ x2).setCell ⟨b, 3, none⟩ x3).setCell ⟨b, 4, none⟩ x4).setCell ⟨b, 5, none⟩ x5).heap[k]? = w.heap[k]? := by
  rw [Below.heap_setCell _ _ _ _ hne, Below.heap_setCell _ _ _ _ hne, Below.heap_setCell _ _ _ _ hne, Below.heap_setCell _ _ _ _ hne, Below.heap_setCell _ _ _ _ hne, Below.heap_setCell _ _ _ _ hne]

theorem F6.flat' {w : World} {b u : Nat} {i : Int} {f : Nat} {bb : Bool} {t : ByteArray} {ra : Option Addr} {rn rc : Nat} (h : F6 w b u i f bb t ra rn rc) :
    w.cell? ⟨b, 0, none⟩ = some (.int .u64 (u : Int)) ∧ w.cell? ⟨b, 1, none⟩ = some (.int .i64 i) ∧ w.cell? ⟨b, 2, none⟩ = some (.float .f64 f) ∧ w.cell? ⟨b, 3, none⟩ = some (.bool bb) ∧ w.cell? ⟨b, 4, none⟩ = some (.string t) ∧ w.cell? ⟨b, 5, none⟩ = some (.slice ra rn rc) ∧
    w.frozen? ⟨b, 0, none⟩ = false ∧ w.frozen? ⟨b, 1, none⟩ = false ∧ w.frozen? ⟨b, 2, none⟩ = false ∧ w.frozen? ⟨b, 3, none⟩ = false ∧ w.frozen? ⟨b, 4, none⟩ = false ∧ w.frozen? ⟨b, 5, none⟩ = false :=
  ⟨h.c0, h.c1, h.c2, h.c3, h.c4, h.c5, h.fz 0 (by omega), h.fz 1 (by omega), h.fz 2 (by omega), h.fz 3 (by omega), h.fz 4 (by omega), h.fz 5 (by omega)⟩

set_option maxHeartbeats 4000000 in
theorem pfield_u (rb : Nat) (s : ByteArray) : POneSays rb s .u := by
  intro p ia n ic S w H hs hok hsm hits hS hrb
  have L := laidP w rb s p 117 ia n ic H hrb
  have HN := Lib.hid (rnum_any rb s p _ L.rd hs)
  have HLD := Lib.hid L
  have hst := d_store
  obtain ⟨c0, c1, fz, -⟩ := id H
  have nb1 : rb ≠ w.heap.size := by omega
  have nb2 : rb ≠ w.heap.size + 1 := by omega
  have hrb2 : rb < w.heap.size + 1 := by omega
  clear H L hok hsm hits hS
  show Calls _ _ #[.pointer (some ⟨rb, 0, none⟩), .agg #[.int .u8 117, .slice ia n ic]] w _
  go_enter Tryz.func109, Tryz.ntmps109
  go_wp2_with fail
  refine HN.out.mono ?_
  rintro e w3 ⟨hk3, hcs⟩
  have hs3 : w.heap.size + 2 ≤ w3.heap.size := by have := hk3.size; have := HLD.out.siz; omega
  have HF3 := Lib.hid (show F6 w3 (w.heap.size + 1) 0 0 0 false ⟨#[]⟩ none 0 0 from by
    have e : w3.heap[w.heap.size + 1]? = ((w.alloc (IP0 117 ia n ic)).alloc F00).heap[w.heap.size + 1]? := hk3.block _ (by rw [HLD.out.siz]; omega) (fun e => nb2 e.symm)
    obtain ⟨d0, d1, d2, d3, d4, d5, dz⟩ := HLD.out.fd
    exact ⟨(World.cell?_of_block e).trans d0, (World.cell?_of_block e).trans d1, (World.cell?_of_block e).trans d2, (World.cell?_of_block e).trans d3, (World.cell?_of_block e).trans d4, (World.cell?_of_block e).trans d5, fun j hj => (World.frozen?_of_block e).trans (dz j hj)⟩)
  have HK3 := Lib.hid (hk3.from HLD.out.bel)
  clear hk3
  cases hr : rdVar s.data.toList p with
  | ok N q =>
    rw [hr] at hcs
    obtain ⟨rfl, hr3⟩ := hcs
    have HR3 := Lib.hid hr3
    have hx : rdOne s.data.toList .u p = .ok (.mk N 0 0 false (⟨#[]⟩ : ByteArray).data.toList []) q := by simp only [rdOne, hr]
    have HFin := Lib.hid (show ∀ w', Kept (fun k => k = rb) w w' → Rd w' rb s q → POneEnds rb s .u p w (.returned (fdV N 0 0 false ⟨#[]⟩ none 0 0)) w' from fun w' hk hr' => ⟨hk, by rw [hx]; exact ⟨_, rfl, ⟨N, 0, 0, false, ⟨#[]⟩, [], none, 0, 0, rfl, rfl, by simp [RowsS]⟩, hr'⟩⟩)
    obtain ⟨d0, d1, d2, d3, d4, d5, v0, v1, v2, v3, v4, v5⟩ := HF3.out.flat'
    clear hr3 hx hr
    go_wp2_with fail
    (try simp only [Exit.inBlock, Exit.then])
    refine bodyPost_ret (v := fdV N 0 0 false ⟨#[]⟩ none 0 0) (by simp [results, Tryz.results109, go_sem, d0, d1, d2, d3, d4, d5]) rfl ?_
    exact HFin.out _ (HK3.out.set6 _ (by omega) _ _ _ _ _ _) (HR3.out.kept (heap6 _ _ _ nb2 _ _ _ _ _ _))
  | bad er fr =>
    rw [hr] at hcs
    obtain ⟨pb, rfl, hd⟩ := hcs
    have HD := Lib.hid hd
    have hx : rdOne s.data.toList .u p = .bad er fr := by simp only [rdOne, hr]
    have HX := Lib.hid hx
    clear hd hx hr
    go_wp2_with fail
    refine ⟨rfl, HK3.out, ?_⟩
    rw [HX.out]
    exact ⟨pb, rfl, by have h1 := HD.out.1; have h2 := HLD.out.siz; omega, HD.out.2⟩

end Go.Proofs.YtidfgjgbigedeaaGreatDoor
end

section
namespace Go.Proofs.YtidfgjgbigedeaaGreatDoor
open Go.RowKit Go.Lib Go.Wq
set_option linter.unusedVariables false
set_option linter.unusedSimpArgs false
set_option maxRecDepth 100000

set_option maxHeartbeats 4000000 in
theorem pfield_i (rb : Nat) (s : ByteArray) : POneSays rb s .i := by
  intro p ia n ic S w H hs hok hsm hits hS hrb
  have L := laidP w rb s p 105 ia n ic H hrb
  have HN := Lib.hid (rnum_any rb s p _ L.rd hs)
  have HLD := Lib.hid L
  have hst := d_store
  obtain ⟨c0, c1, fz, -⟩ := id H
  have nb1 : rb ≠ w.heap.size := by omega
  have nb2 : rb ≠ w.heap.size + 1 := by omega
  have hrb2 : rb < w.heap.size + 1 := by omega
  clear H L hok hsm hits hS
  show Calls _ _ #[.pointer (some ⟨rb, 0, none⟩), .agg #[.int .u8 105, .slice ia n ic]] w _
  go_enter Tryz.func109, Tryz.ntmps109
  go_wp2_with fail
  refine HN.out.mono ?_
  rintro e w3 ⟨hk3, hcs⟩
  have hs3 : w.heap.size + 2 ≤ w3.heap.size := by have := hk3.size; have := HLD.out.siz; omega
  have HF3 := Lib.hid (show F6 w3 (w.heap.size + 1) 0 0 0 false ⟨#[]⟩ none 0 0 from by
    have e : w3.heap[w.heap.size + 1]? = ((w.alloc (IP0 105 ia n ic)).alloc F00).heap[w.heap.size + 1]? := hk3.block _ (by rw [HLD.out.siz]; omega) (fun e => nb2 e.symm)
    obtain ⟨d0, d1, d2, d3, d4, d5, dz⟩ := HLD.out.fd
    exact ⟨(World.cell?_of_block e).trans d0, (World.cell?_of_block e).trans d1, (World.cell?_of_block e).trans d2, (World.cell?_of_block e).trans d3, (World.cell?_of_block e).trans d4, (World.cell?_of_block e).trans d5, fun j hj => (World.frozen?_of_block e).trans (dz j hj)⟩)
  have HK3 := Lib.hid (hk3.from HLD.out.bel)
  clear hk3
  cases hr : rdVar s.data.toList p with
  | ok N q =>
    rw [hr] at hcs
    obtain ⟨rfl, hr3⟩ := hcs
    have HR3 := Lib.hid hr3
    have hx : rdOne s.data.toList .i p = .ok (.mk 0 (zag N) 0 false (⟨#[]⟩ : ByteArray).data.toList []) q := by simp only [rdOne, hr]
    have HFin := Lib.hid (show ∀ w', Kept (fun k => k = rb) w w' → Rd w' rb s q → POneEnds rb s .i p w (.returned (fdV 0 (zag N) 0 false ⟨#[]⟩ none 0 0)) w' from fun w' hk hr' => ⟨hk, by rw [hx]; exact ⟨_, rfl, ⟨0, zag N, 0, false, ⟨#[]⟩, [], none, 0, 0, rfl, rfl, by simp [RowsS]⟩, hr'⟩⟩)
    obtain ⟨d0, d1, d2, d3, d4, d5, v0, v1, v2, v3, v4, v5⟩ := HF3.out.flat'
    have HU := Lib.hid (fun w => unfold_any N (rdVar_only hr).1 w)
    clear hr3 hx hr
    go_wp2_with fail
    refine (HU.out _).mono ?_
    rintro e w4 ⟨rfl, rfl⟩
    go_wp2_with fail
    (try simp only [Exit.inBlock, Exit.then])
    refine bodyPost_ret (v := fdV 0 (zag N) 0 false ⟨#[]⟩ none 0 0) (by simp [results, Tryz.results109, go_sem, d0, d1, d2, d3, d4, d5]) rfl ?_
    exact HFin.out _ (HK3.out.set6 _ (by omega) _ _ _ _ _ _) (HR3.out.kept (heap6 _ _ _ nb2 _ _ _ _ _ _))
  | bad er fr =>
    rw [hr] at hcs
    obtain ⟨pb, rfl, hd⟩ := hcs
    have HD := Lib.hid hd
    have hx : rdOne s.data.toList .i p = .bad er fr := by simp only [rdOne, hr]
    have HX := Lib.hid hx
    clear hd hx hr
    go_wp2_with fail
    refine ⟨rfl, HK3.out, ?_⟩
    rw [HX.out]
    exact ⟨pb, rfl, by have h1 := HD.out.1; have h2 := HLD.out.siz; omega, HD.out.2⟩

set_option maxHeartbeats 4000000 in
theorem pfield_f (rb : Nat) (s : ByteArray) : POneSays rb s .f := by
  intro p ia n ic S w H hs hok hsm hits hS hrb
  have L := laidP w rb s p 102 ia n ic H hrb
  have HN := Lib.hid (pfloat_any rb s p _ L.rd hs)
  have HLD := Lib.hid L
  have hst := d_store
  obtain ⟨c0, c1, fz, -⟩ := id H
  have nb1 : rb ≠ w.heap.size := by omega
  have nb2 : rb ≠ w.heap.size + 1 := by omega
  have hrb2 : rb < w.heap.size + 1 := by omega
  clear H L hok hsm hits hS
  show Calls _ _ #[.pointer (some ⟨rb, 0, none⟩), .agg #[.int .u8 102, .slice ia n ic]] w _
  go_enter Tryz.func109, Tryz.ntmps109
  go_wp2_with fail
  refine HN.out.mono ?_
  rintro e w3 ⟨hk3, hcs⟩
  have hs3 : w.heap.size + 2 ≤ w3.heap.size := by have := hk3.size; have := HLD.out.siz; omega
  have HF3 := Lib.hid (show F6 w3 (w.heap.size + 1) 0 0 0 false ⟨#[]⟩ none 0 0 from by
    have e : w3.heap[w.heap.size + 1]? = ((w.alloc (IP0 102 ia n ic)).alloc F00).heap[w.heap.size + 1]? := hk3.block _ (by rw [HLD.out.siz]; omega) (fun e => nb2 e.symm)
    obtain ⟨d0, d1, d2, d3, d4, d5, dz⟩ := HLD.out.fd
    exact ⟨(World.cell?_of_block e).trans d0, (World.cell?_of_block e).trans d1, (World.cell?_of_block e).trans d2, (World.cell?_of_block e).trans d3, (World.cell?_of_block e).trans d4, (World.cell?_of_block e).trans d5, fun j hj => (World.frozen?_of_block e).trans (dz j hj)⟩)
  have HK3 := Lib.hid (hk3.from HLD.out.bel)
  clear hk3
  by_cases hlt : s.data.toList.length < p + 8
  · rw [if_pos hlt] at hcs
    obtain ⟨pb, rfl, hd⟩ := hcs
    have HD := Lib.hid hd
    have hx : rdOne s.data.toList .f p = .bad 42 p := by simp only [rdOne, if_pos hlt]
    have HX := Lib.hid hx
    clear hd hx hlt
    go_wp2_with fail
    refine ⟨rfl, HK3.out, ?_⟩
    rw [HX.out]
    exact ⟨pb, rfl, by have h1 := HD.out.1; have h2 := HLD.out.siz; omega, HD.out.2⟩
  · rw [if_neg hlt] at hcs
    obtain ⟨rfl, hr3⟩ := hcs
    have HR3 := Lib.hid hr3
    have hx : rdOne s.data.toList .f p = .ok (.mk 0 0 (numOf ((s.data.toList.drop p).take 8) 0) false (⟨#[]⟩ : ByteArray).data.toList []) (p + 8) := by simp only [rdOne, if_neg hlt]
    generalize numOf ((s.data.toList.drop p).take 8) 0 = N at *
    have HFin := Lib.hid (show ∀ w', Kept (fun k => k = rb) w w' → Rd w' rb s (p + 8) → POneEnds rb s .f p w (.returned (fdV 0 0 N false ⟨#[]⟩ none 0 0)) w' from fun w' hk hr' => ⟨hk, by rw [hx]; exact ⟨_, rfl, ⟨0, 0, N, false, ⟨#[]⟩, [], none, 0, 0, rfl, rfl, by simp [RowsS]⟩, hr'⟩⟩)
    obtain ⟨d0, d1, d2, d3, d4, d5, v0, v1, v2, v3, v4, v5⟩ := HF3.out.flat'
    clear hr3 hx hlt
    go_wp2_with fail
    (try simp only [Exit.inBlock, Exit.then])
    refine bodyPost_ret (v := fdV 0 0 N false ⟨#[]⟩ none 0 0) (by simp [results, Tryz.results109, go_sem, d0, d1, d2, d3, d4, d5]) rfl ?_
    exact HFin.out _ (HK3.out.set6 _ (by omega) _ _ _ _ _ _) (HR3.out.kept (heap6 _ _ _ nb2 _ _ _ _ _ _))

set_option maxHeartbeats 4000000 in
theorem pfield_b (rb : Nat) (s : ByteArray) : POneSays rb s .b := by
  intro p ia n ic S w H hs hok hsm hits hS hrb
  have L := laidP w rb s p 98 ia n ic H hrb
  have HN := Lib.hid (rtruth_any rb s p _ L.rd hs)
  have HLD := Lib.hid L
  have hst := d_store
  obtain ⟨c0, c1, fz, -⟩ := id H
  have nb1 : rb ≠ w.heap.size := by omega
  have nb2 : rb ≠ w.heap.size + 1 := by omega
  have hrb2 : rb < w.heap.size + 1 := by omega
  clear H L hok hsm hits hS
  show Calls _ _ #[.pointer (some ⟨rb, 0, none⟩), .agg #[.int .u8 98, .slice ia n ic]] w _
  go_enter Tryz.func109, Tryz.ntmps109
  go_wp2_with fail
  refine HN.out.mono ?_
  rintro e w3 ⟨hk3, hcs⟩
  have hs3 : w.heap.size + 2 ≤ w3.heap.size := by have := hk3.size; have := HLD.out.siz; omega
  have HF3 := Lib.hid (show F6 w3 (w.heap.size + 1) 0 0 0 false ⟨#[]⟩ none 0 0 from by
    have e : w3.heap[w.heap.size + 1]? = ((w.alloc (IP0 98 ia n ic)).alloc F00).heap[w.heap.size + 1]? := hk3.block _ (by rw [HLD.out.siz]; omega) (fun e => nb2 e.symm)
    obtain ⟨d0, d1, d2, d3, d4, d5, dz⟩ := HLD.out.fd
    exact ⟨(World.cell?_of_block e).trans d0, (World.cell?_of_block e).trans d1, (World.cell?_of_block e).trans d2, (World.cell?_of_block e).trans d3, (World.cell?_of_block e).trans d4, (World.cell?_of_block e).trans d5, fun j hj => (World.frozen?_of_block e).trans (dz j hj)⟩)
  have HK3 := Lib.hid (hk3.from HLD.out.bel)
  clear hk3
  cases hg : s.data.toList[p]? with
  | none =>
    rw [hg] at hcs
    obtain ⟨pb, rfl, hd⟩ := hcs
    have HD := Lib.hid hd
    have hx : rdOne s.data.toList .b p = .bad 42 p := by simp only [rdOne, hg]
    have HX := Lib.hid hx
    clear hd hx hg
    go_wp2_with fail
    refine ⟨rfl, HK3.out, ?_⟩
    rw [HX.out]
    exact ⟨pb, rfl, by have h1 := HD.out.1; have h2 := HLD.out.siz; omega, HD.out.2⟩
  | some c =>
    rw [hg] at hcs
    simp only [] at hcs
    by_cases hlt : 1 < c.toNat
    · rw [if_pos hlt] at hcs
      obtain ⟨pb, rfl, hd⟩ := hcs
      have HD := Lib.hid hd
      have hx : rdOne s.data.toList .b p = .bad 43 p := by simp only [rdOne, hg, if_pos hlt]
      have HX := Lib.hid hx
      clear hd hx hg hlt
      go_wp2_with fail
      refine ⟨rfl, HK3.out, ?_⟩
      rw [HX.out]
      exact ⟨pb, rfl, by have h1 := HD.out.1; have h2 := HLD.out.siz; omega, HD.out.2⟩
    · rw [if_neg hlt] at hcs
      obtain ⟨rfl, hr3⟩ := hcs
      have HR3 := Lib.hid hr3
      have hx : rdOne s.data.toList .b p = .ok (.mk 0 0 0 (c.toNat == 1) (⟨#[]⟩ : ByteArray).data.toList []) (p + 1) := by simp only [rdOne, hg, if_neg hlt]
      generalize (c.toNat == 1) = B at *
      have HFin := Lib.hid (show ∀ w', Kept (fun k => k = rb) w w' → Rd w' rb s (p + 1) → POneEnds rb s .b p w (.returned (fdV 0 0 0 B ⟨#[]⟩ none 0 0)) w' from fun w' hk hr' => ⟨hk, by rw [hx]; exact ⟨_, rfl, ⟨0, 0, 0, B, ⟨#[]⟩, [], none, 0, 0, rfl, rfl, by simp [RowsS]⟩, hr'⟩⟩)
      obtain ⟨d0, d1, d2, d3, d4, d5, v0, v1, v2, v3, v4, v5⟩ := HF3.out.flat'
      clear hr3 hx hg hlt
      go_wp2_with fail
      (try simp only [Exit.inBlock, Exit.then])
      refine bodyPost_ret (v := fdV 0 0 0 B ⟨#[]⟩ none 0 0) (by simp [results, Tryz.results109, go_sem, d0, d1, d2, d3, d4, d5]) rfl ?_
      exact HFin.out _ (HK3.out.set6 _ (by omega) _ _ _ _ _ _) (HR3.out.kept (heap6 _ _ _ nb2 _ _ _ _ _ _))

end Go.Proofs.YtidfgjgbigedeaaGreatDoor
end

section
namespace Go.Proofs.YtidfgjgbigedeaaGreatDoor
open Go.RowKit Go.Lib Go.Wq
set_option linter.unusedVariables false
set_option linter.unusedSimpArgs false
set_option maxRecDepth 100000

theorem F6.moved {w w' : World} {b u : Nat} {i : Int} {f : Nat} {bb : Bool} {t : ByteArray} {ra : Option Addr} {rn rc : Nat} (h : F6 w b u i f bb t ra rn rc) (e : w'.heap[b]? = w.heap[b]?) : F6 w' b u i f bb t ra rn rc :=
  ⟨(World.cell?_of_block e).trans h.c0, (World.cell?_of_block e).trans h.c1, (World.cell?_of_block e).trans h.c2, (World.cell?_of_block e).trans h.c3, (World.cell?_of_block e).trans h.c4, (World.cell?_of_block e).trans h.c5, fun j hj => (World.frozen?_of_block e).trans (h.fz j hj)⟩

set_option maxHeartbeats 4000000 in
theorem pfield_t (HCl : ∀ (T : ByteArray) (w : World), T.size ≤ 65536 → Calls Tryz.prog 125 #[.string T] w fun e w' => e = .returned (.string T) ∧ Below w.heap.size w w') (rb : Nat) (s : ByteArray) : POneSays rb s .t := by
  intro p ia n ic S w H hs hok hsm hits hS hrb
  have L := laidP w rb s p 116 ia n ic H hrb
  have HN := Lib.hid (rnum_any rb s p _ L.rd hs)
  have HLD := Lib.hid L
  have HCL := Lib.hid HCl
  have HS := Lib.hid hs
  have hl : Hid (s.data.toList.length = s.size) := Lib.hid Array.length_toList
  clear HCl
  have hst := d_store
  obtain ⟨c0, c1, fz, -⟩ := id H
  have nb1 : rb ≠ w.heap.size := by omega
  have nb2 : rb ≠ w.heap.size + 1 := by omega
  have hrb2 : rb < w.heap.size + 1 := by omega
  clear H L hok hsm hits hS
  show Calls _ _ #[.pointer (some ⟨rb, 0, none⟩), .agg #[.int .u8 116, .slice ia n ic]] w _
  go_enter Tryz.func109, Tryz.ntmps109
  go_wp2_with fail
  refine HN.out.mono ?_
  rintro e w3 ⟨hk3, hcs⟩
  have hs3 : w.heap.size + 2 ≤ w3.heap.size := by have := hk3.size; have := HLD.out.siz; omega
  have HF3 := Lib.hid (show F6 w3 (w.heap.size + 1) 0 0 0 false ⟨#[]⟩ none 0 0 from by
    have e : w3.heap[w.heap.size + 1]? = ((w.alloc (IP0 116 ia n ic)).alloc F00).heap[w.heap.size + 1]? := hk3.block _ (by rw [HLD.out.siz]; omega) (fun e => nb2 e.symm)
    obtain ⟨d0, d1, d2, d3, d4, d5, dz⟩ := HLD.out.fd
    exact ⟨(World.cell?_of_block e).trans d0, (World.cell?_of_block e).trans d1, (World.cell?_of_block e).trans d2, (World.cell?_of_block e).trans d3, (World.cell?_of_block e).trans d4, (World.cell?_of_block e).trans d5, fun j hj => (World.frozen?_of_block e).trans (dz j hj)⟩)
  have HK3 := Lib.hid (hk3.from HLD.out.bel)
  clear hk3
  cases hr : rdVar s.data.toList p with
  | ok N q =>
    rw [hr] at hcs
    obtain ⟨rfl, hr3⟩ := hcs
    have HN64 := Lib.hid (rdVar_only hr).1
    by_cases hlt : s.data.toList.length < q + N
    · have HTB := Lib.hid (take_bad rb s q N p w3 hr3 hs (by have := hl.out; omega) HN64.out)
      have hx : rdOne s.data.toList .t p = .bad 42 p := by simp only [rdOne, hr, if_pos hlt]
      have HX := Lib.hid hx
      clear hr3 hx hr hlt
      go_wp2_with fail
      refine HTB.out.mono ?_
      rintro e w4 ⟨⟨pb, rfl, hd⟩, hb4⟩
      have HD := Lib.hid hd
      have HB4 := Lib.hid (Kept.of_below (S := fun k => k = rb) hb4)
      clear hd hb4
      go_wp2_with fail
      refine ⟨rfl, HK3.out.trans HB4.out, ?_⟩
      rw [HX.out]
      exact ⟨pb, rfl, by have h1 := HD.out.1; omega, HD.out.2⟩
    · have HTK := Lib.hid (take_ok rb s q N p w3 hr3 hs (by have := hl.out; omega))
      have hx : rdOne s.data.toList .t p = .ok (.mk 0 0 0 false (s.extract q (q + N)).data.toList []) (q + N) := by simp only [rdOne, hr, if_neg hlt, extract_data]
      have hTz : (s.extract q (q + N)).size ≤ 65536 := by rw [extract_size s q N (by have := hl.out; omega)]; have := hl.out; omega
      generalize s.extract q (q + N) = T at *
      have HFin := Lib.hid (show ∀ w', Kept (fun k => k = rb) w w' → Rd w' rb s (q + N) → POneEnds rb s .t p w (.returned (fdV 0 0 0 false T none 0 0)) w' from fun w' hk hr' => ⟨hk, by rw [hx]; exact ⟨_, rfl, ⟨0, 0, 0, false, T, [], none, 0, 0, rfl, rfl, by simp [RowsS]⟩, hr'⟩⟩)
      have HC := Lib.hid (fun w => HCL.out T w hTz)
      clear hr3 hx hr hlt hTz
      go_wp2_with fail
      refine HTK.out.mono ?_
      rintro e w4 ⟨rfl, hr4, hk4⟩
      have HK4 := Lib.hid hk4
      have HR4 := Lib.hid hr4
      have hs4 := hk4.size
      clear hr4 hk4
      go_wp2_with fail
      refine (HC.out w4).mono ?_
      rintro e w5 ⟨rfl, hb5⟩
      have hs5 := hb5.size
      have HF5 := Lib.hid (HF3.out.moved (w' := w5) ((hb5.block _ (by omega)).trans (HK4.out.block _ (by omega) (fun e => nb2 e.symm))))
      have HK5 := Lib.hid ((HK3.out.trans HK4.out).trans (Kept.of_below hb5))
      have HR5 := Lib.hid (HR4.out.kept (hb5.block rb (by omega)))
      clear hb5
      obtain ⟨d0, d1, d2, d3, d4, d5, v0, v1, v2, v3, v4, v5⟩ := HF5.out.flat'
      go_wp2_with fail
      (try simp only [Exit.inBlock, Exit.then])
      refine bodyPost_ret (v := fdV 0 0 0 false T none 0 0) (by simp [results, Tryz.results109, go_sem, d0, d1, d2, d3, d4, d5]) rfl ?_
      exact HFin.out _ (HK5.out.set6 _ (by omega) _ _ _ _ _ _) (HR5.out.kept (heap6 _ _ _ nb2 _ _ _ _ _ _))
  | bad er fr =>
    rw [hr] at hcs
    obtain ⟨pb, rfl, hd⟩ := hcs
    have HD := Lib.hid hd
    have hx : rdOne s.data.toList .t p = .bad er fr := by simp only [rdOne, hr]
    have HX := Lib.hid hx
    clear hd hx hr
    go_wp2_with fail
    refine ⟨rfl, HK3.out, ?_⟩
    rw [HX.out]
    exact ⟨pb, rfl, by have h1 := HD.out.1; have h2 := HLD.out.siz; omega, HD.out.2⟩

end Go.Proofs.YtidfgjgbigedeaaGreatDoor
end
