/- The program's reader: a list. -/
import Derived.Test.YtgikdmognolmoaaDoorWpO
import Derived.Test.YtgikdmognolmoaaDoorWsC
import Derived.Test.YtgikdmognolmoaaDoorWqAll
namespace Go.Proofs.YtgikdmognolmoaaDoor
open Go.RowKit Go.Lib Go.Wq
set_option linter.unusedVariables false
set_option linter.unusedSimpArgs false
set_option maxRecDepth 100000

/-- How reading fields ends, in the program. -/
def PAllEnds (rb : Nat) (s : ByteArray) (its : List It) (p : Nat) (w : World) (e : Ending) (w' : World) : Prop :=
  Kept (fun k => k = rb) w w' ∧ match rdAll s.data.toList its p with
    | .ok l q => ∃ (a : Option Addr) (c : Nat), e = .returned (.slice a l.length c) ∧ FldsS w' (New w.heap.size w') l a l.length ∧ Rd w' rb s q
    | .bad er fr => Dies er fr w e w'
def POneEnds (rb : Nat) (s : ByteArray) (it : It) (p : Nat) (w : World) (e : Ending) (w' : World) : Prop :=
  Kept (fun k => k = rb) w w' ∧ match rdOne s.data.toList it p with
    | .ok x q => ∃ v, e = .returned v ∧ FV w' (New w.heap.size w') v x ∧ Rd w' rb s q
    | .bad er fr => Dies er fr w e w'
def PAllSays (rb : Nat) (s : ByteArray) (its : List It) : Prop := ∀ (p : Nat) (ia : Option Addr) (ic : Nat) (S : Nat → Prop) (w : World), Rd w rb s p → s.size ≤ 65536 → its.length ≤ 256 → (∀ x ∈ its, x.Ok) → (∀ x ∈ its, x.Sm) → ItsZ w S its ia its.length → (∀ k, S k → k < w.heap.size ∧ k ≠ rb) → rb < w.heap.size →
  Calls Tryd.prog 18 #[.pointer (some ⟨rb, 0, none⟩), .slice ia its.length ic] w (PAllEnds rb s its p w)
def POneSays (rb : Nat) (s : ByteArray) (it : It) : Prop := ∀ (p : Nat) (ia : Option Addr) (n ic : Nat) (S : Nat → Prop) (w : World), Rd w rb s p → s.size ≤ 65536 → it.Ok → it.Sm → ItsZ w S it.inner ia n → (∀ k, S k → k < w.heap.size ∧ k ≠ rb) → rb < w.heap.size →
  Calls Tryd.prog 30 #[.pointer (some ⟨rb, 0, none⟩), .agg #[.int .u8 it.code, .slice ia n ic]] w (POneEnds rb s it p w)

/-- How reading a list's rows ends. -/
def PListEnds (rb : Nat) (s : ByteArray) (its : List It) (n p : Nat) (w : World) (e : Ending) (w' : World) : Prop :=
  Kept (fun k => k = rb) w w' ∧ match rdRows (fun p => rdAll s.data.toList its p) n p with
    | .ok l q => ∃ (a : Option Addr) (c : Nat), e = .returned (.slice a l.length c) ∧ RowsS w' (New w.heap.size w') l a l.length ∧ Rd w' rb s q
    | .bad er fr => Dies er fr w e w'
theorem infoL' : ∃ (i : TypeInfo) (z : Value), Tryd.prog.info? 22 = some i ∧ i.zero = some z ∧ i.size = 1 ∧ i.bytes = 24 ∧ z.cells.size = 1 := by
  refine ⟨_, _, rfl, rfl, ?_, ?_, ?_⟩ <;> kernel_rfl

theorem own_slice' {w : World} {base e size : Nat} {v : Value} {n : Nat} {xs : List Value} (h : w.ownsRow base e size v n xs) : ∃ (a : Option Addr) (c : Nat), v = .slice a n c := by
  rcases h.2 with ⟨rfl, hn⟩ | ⟨g, cap, cur, rfl, _⟩
  · exact ⟨none, 0, by rw [hn]⟩
  · exact ⟨some ⟨g, 0, none⟩, cap, rfl⟩

set_option maxHeartbeats 4000000 in
theorem plist_any (rb : Nat) (s : ByteArray) (its : List It) (HA : PAllSays rb s its) (hne : its ≠ []) (h256 : its.length ≤ 256) (hok : ∀ x ∈ its, x.Ok) (hsm : ∀ x ∈ its, x.Sm) (n p : Nat) (hn : n < 18446744073709551616) (ia : Option Addr) (ic : Nat) (S : Nat → Prop) (w : World)
    (H : Rd w rb s p) (hs : s.size ≤ 65536) (hits : ItsZ w S its ia its.length) (hS : ∀ k, S k → k < w.heap.size ∧ k ≠ rb) (hrb : rb < w.heap.size) :
    Calls Tryd.prog 47 #[.pointer (some ⟨rb, 0, none⟩), .int .u64 (n : Int), .slice ia its.length ic] w (PListEnds rb s its n p w) := by
  have hl : s.data.toList.length = s.size := Array.length_toList
  obtain ⟨i0, z0, hi, hz0, hz1, hz2, hz3⟩ := infoL'
  have HCall := Lib.hid (fun (P : Nat) (W : World) (hr : Rd W rb s P) (hk : Kept (fun k => k = rb) w W) =>
    HA P ia ic S W hr hs h256 hok hsm (ItsZ.kept (fun k hk2 => hk.block k (hS k hk2).1 (hS k hk2).2) (fun k h => h) _ _ _ hits) (fun k hk2 => ⟨Nat.lt_of_lt_of_le (hS k hk2).1 hk.size, (hS k hk2).2⟩) (Nat.lt_of_lt_of_le hrb hk.size))
  have HOn := Lib.hid (fun (P Q : Nat) (x : List Fld) (h : rdAll s.data.toList its P = .ok x Q) => all_on (s := s.data.toList) (by rw [hl]; omega) hne hok h)
  have HH := Lib.hid H
  clear HA H hits hS hok hsm
  go_enter Tryd.func47, Tryd.ntmps47
  go_wp2_with fail
  go_loopw [7, 9] (fun v i wr => ∃ (P : Nat) (rows : List (List Fld)) (xs : List Value) (ra : Option Addr) (rc : Nat), v = .slice ra rows.length rc ∧ i = .int .u64 ((rows.length : Nat) : Int) ∧ rows.length ≤ n ∧ rows.length ≤ P ∧ P ≤ s.size ∧ Rd wr rb s P ∧ Kept (fun k => k = rb) w wr ∧
      wr.ownsRow w.heap.size 22 1 (.slice ra rows.length rc) rows.length xs ∧ RCellsS wr (Mine w.heap.size wr (.slice ra rows.length rc)) xs rows ∧ rdRows (fun p => rdAll s.data.toList its p) n p = R.pre rows (rdRows (fun p => rdAll s.data.toList its p) (n - rows.length) P)) (fun _ i _ => n - (intOf i).toNat)
  case atStart => exact ⟨p, [], [], none, 0, rfl, rfl, Nat.zero_le _, Nat.zero_le _, HH.out.le, HH.out, Kept.refl _ _, World.ownsRow_nil _ _ _ _, .nil, by rw [R.pre_nil]; rfl⟩
  case round =>
    obtain ⟨P, rows, xs, ra, rc, rfl, rfl, hkn, hkP, hPs, hr, hkp, hown, hcells, hrd⟩ := hrel
    have HKp := Lib.hid hkp
    have HRD := Lib.hid hrd
    have HOwn := Lib.hid hown
    have HCells := Lib.hid hcells
    have hsz := hkp.size
    by_cases hk : rows.length < n
    · have hki : ((rows.length : Nat) : Int) < (n : Int) := by omega
      have HC := Lib.hid (HCall.out P wr hr hkp)
      clear hkp hrd hown hcells hr
      go_wp2_with fail
      refine HC.out.mono ?_
      rintro e w3 ⟨hk3, hcs⟩
      have HK3 := Lib.hid hk3
      have hs3 := hk3.size
      clear hk3
      cases hg : rdAll s.data.toList its P with
      | bad er fr =>
        rw [hg] at hcs
        obtain ⟨pb, rfl, hd⟩ := hcs
        have HD := Lib.hid hd
        have HG := Lib.hid hg
        clear hd hg
        go_wp2_with fail
        refine ⟨rfl, HKp.out.trans HK3.out, ?_⟩
        rw [HRD.out, show n - rows.length = n - (rows.length + 1) + 1 by omega, rdRows_fall HG.out]
        exact ⟨pb, rfl, by have := HD.out.1; omega, HD.out.2⟩
      | ok l Q =>
        rw [hg] at hcs
        obtain ⟨la, lc, rfl, hfl, hr3⟩ := hcs
        have HFL := Lib.hid hfl
        have HR3 := Lib.hid hr3
        have HG := Lib.hid hg
        obtain ⟨hq1, hq2⟩ := HOn.out P Q l hg
        have HQ2 : Hid (Q ≤ s.size) := Lib.hid (by rw [hl] at hq2; exact hq2)
        clear hfl hr3 hg hq2
        have HG6 : wr.grownBy w3 (some rb) := ⟨HK3.out.os, HK3.out.tape, HK3.out.output, HK3.out.size, fun k hk' hne => HK3.out.block k hk' (fun e => hne (by rw [e]))⟩
        have HLT : Hid (∀ k, Value.ownBlock (.slice ra rows.length rc) = some k → w.heap.size ≤ k ∧ k < wr.heap.size) := Lib.hid HOwn.out.lt
        have HO6 := Lib.hid (show w3.ownsRow w.heap.size 22 1 (.slice ra rows.length rc) rows.length xs from HOwn.out.kept HG6 (by
          cases hob : Value.ownBlock (.slice ra rows.length rc) with
          | none => exact Or.inl rfl
          | some k => exact Or.inr (fun e => by injection e with e; have := (HLT.out k hob).1; omega)))
        have HC6 := Lib.hid (show RCellsS w3 (Mine w.heap.size w3 (.slice ra rows.length rc)) xs rows from HCells.out.kept (fun k hk => HG6.block k hk.2.1 (fun e => by injection e with e; have := hk.1; omega)) (fun k hk => ⟨hk.1, by have := hk.2.1; omega, hk.2.2⟩))
        have H63 : Hid (rows.length + 1 ≤ maxLen) := Lib.hid (by unfold maxLen; omega)
        have H47 : Hid ((rows.length + 1) * 24 ≤ 140737488355328) := Lib.hid (by omega)
        have HN7 : Hid (FldsS w3 (Mine w.heap.size w3 (.slice ra rows.length rc)) l la l.length) := Lib.hid (FldsS.kept (fun k hk => rfl) (fun k hk => ⟨by have := hk.1; omega, hk.2, fun e => by have := (HLT.out k e).2; have := hk.1; omega⟩) _ _ _ HFL.out)
        have HCS : Hid (∀ (j : Nat) (u : Value), ([.slice la l.length lc] : List Value)[j]? = some u → (w3.alloc (.cells #[.slice la l.length lc] 22)).cell? ((⟨w3.heap.size, 0, none⟩ : Addr).add j) = some u) := Lib.hid (by
          intro j u hj
          match j with
          | 0 => simp at hj; subst hj; simp [Addr.add]
          | j + 1 => simp at hj)
        have hwn : IntKind.u64.wrap (((rows.length : Nat) : Int) + 1) = ((rows.length : Nat) : Int) + 1 := by rw [IntKind.wrap_u64]; omega
        clear HG6
        go_wp2_with (at_builtin; (refine wpList_append_vals _ rfl _ _ 51 rfl w.heap.size 22 i0 z0 1 24 Tryd.underlying51 hi hz0 hz1 hz2 hz3 (by decide) (.slice ra rows.length rc) rows.length xs (by rfl) (HO6.out.alloc _) ⟨w3.heap.size, 0, none⟩ 1 1 [.slice la l.length lc] rfl rfl HCS.out (by intro u hu; simp at hu; subst hu; rfl) H63.out H47.out (by simp; omega) ?_); intro v' w4 hown hg; obtain ⟨ra', rc', rfl⟩ := own_slice' hown; have HO7 := Lib.hid hown; have HG7 := Lib.hid hg; clear hown hg)
        have HG4 : Grew w3 w4 (.slice ra rows.length rc) (.slice ra' (rows.length + 1) rc') := (Grew.alloc w3 _ _).trans HG7.out
        have HC8 := (HC6.out.grew HG4).snoc lc (FldsS.kept (fun k hk => HG4.g.block k hk.2.1 (fun e => hk.2.2 e.symm)) (fun k hk => ⟨hk.1, Nat.lt_of_lt_of_le hk.2.1 HG4.g.size, HG4.other hk.2.1 hk.2.2⟩) _ _ _ HN7.out)
        have hl8 : (rows ++ [l]).length = rows.length + 1 := by simp
        have hr4 : Rd w4 rb s Q := HR3.out.kept (HG4.g.block rb (by omega) (fun e => by have := (HLT.out rb e.symm).1; omega))
        have hk4 : Kept (fun k => k = rb) w w4 := ⟨HG4.g.os.trans (HK3.out.os.trans HKp.out.os), HG4.g.tape.trans (HK3.out.tape.trans HKp.out.tape), HG4.g.output.trans (HK3.out.output.trans HKp.out.output), by have := HG4.g.size; omega, fun k hk hne => by rw [HG4.g.block k (by omega) (fun e => by have := (HLT.out k e.symm).1; omega), (HKp.out.trans HK3.out).block k hk hne]⟩
        · refine ⟨⟨Q, rows ++ [l], xs ++ [.slice la l.length lc], ra', rc', by rw [hl8], by rw [hl8]; go_num, by omega, by omega, HQ2.out, hr4, hk4, by rw [hl8]; exact HO7.out, by rw [hl8]; exact HC8, ?_⟩, ?_⟩
          · rw [HRD.out, hl8, show n - rows.length = n - (rows.length + 1) + 1 by omega, rdRows_next HG.out]
          · simp [intOf]; omega
    · have hki : ¬ ((rows.length : Nat) : Int) < (n : Int) := by omega
      obtain ⟨a', c', hv, hrows⟩ := own_rows hown hcells
      injection hv with hv1 hv2 hv3
      subst hv1
      clear hv2 hv3
      have HFin : Hid (PListEnds rb s its n p w (.returned (.slice ra rows.length rc)) wr) := Lib.hid ⟨hkp, by rw [hrd, show n - rows.length = 0 by omega, rdRows_end]; exact ⟨ra, rc, rfl, hrows, hr⟩⟩
      clear hkp hrd hown hcells hr hrows
      go_wp2_with fail
      go_ret
      exact HFin.out
end Go.Proofs.YtgikdmognolmoaaDoor
