/- The program's isBare. The program's checkFields. -/
import Derived.Test.YtidfgjgbigedeaaGreatDoorWpB
import Derived.Test.YtidfgjgbigedeaaGreatDoorWrA
import Derived.RegionCalls
import Derived.Deep.RegionWith
import Derived.StillTailTactics
section
namespace Go.Proofs.YtidfgjgbigedeaaGreatDoor
open Go.RowKit Go.Lib Go.Wq
set_option linter.unusedVariables false
set_option linter.unusedSimpArgs false
set_option maxRecDepth 100000

set_option maxHeartbeats 4000000 in
theorem bare_u (u i : Int) (f : Nat) (bb : Bool) (t : ByteArray) (ra : Option Addr) (n cap : Nat) (w : World) :
    Calls Tryz.prog 66 #[.int .u8 117, .agg #[.int .u64 u, .int .i64 i, .float .f64 f, .bool bb, .string t, .slice ra n cap]] w fun e w' => e = .returned (.bool (zeroV 117 u i f bb t n)) ∧ Below w.heap.size w w' := by
  have hb := w_bits
  have hn := w_not
  go_enter Tryz.func66, Tryz.ntmps66
  go_wp2_with fail
  all_goals (go_ret; refine ⟨?_, (Below.refl _ w).alloc (Nat.le_refl _) _⟩; clear hb hn; simp_all [zeroV, toList_nil])
set_option maxHeartbeats 4000000 in
theorem bare_i (u i : Int) (f : Nat) (bb : Bool) (t : ByteArray) (ra : Option Addr) (n cap : Nat) (w : World) :
    Calls Tryz.prog 66 #[.int .u8 105, .agg #[.int .u64 u, .int .i64 i, .float .f64 f, .bool bb, .string t, .slice ra n cap]] w fun e w' => e = .returned (.bool (zeroV 105 u i f bb t n)) ∧ Below w.heap.size w w' := by
  have hb := w_bits
  have hn := w_not
  go_enter Tryz.func66, Tryz.ntmps66
  go_wp2_with fail
  all_goals (go_ret; refine ⟨?_, (Below.refl _ w).alloc (Nat.le_refl _) _⟩; clear hb hn; simp_all [zeroV, toList_nil])
set_option maxHeartbeats 4000000 in
theorem bare_f (u i : Int) (f : Nat) (bb : Bool) (t : ByteArray) (ra : Option Addr) (n cap : Nat) (w : World) :
    Calls Tryz.prog 66 #[.int .u8 102, .agg #[.int .u64 u, .int .i64 i, .float .f64 f, .bool bb, .string t, .slice ra n cap]] w fun e w' => e = .returned (.bool (zeroV 102 u i f bb t n)) ∧ Below w.heap.size w w' := by
  have hb := w_bits
  have hn := w_not
  go_enter Tryz.func66, Tryz.ntmps66
  go_wp2_with fail
  all_goals (go_ret; refine ⟨?_, (Below.refl _ w).alloc (Nat.le_refl _) _⟩; clear hb hn; simp_all [zeroV, toList_nil])
set_option maxHeartbeats 4000000 in
theorem bare_b (u i : Int) (f : Nat) (bb : Bool) (t : ByteArray) (ra : Option Addr) (n cap : Nat) (w : World) :
    Calls Tryz.prog 66 #[.int .u8 98, .agg #[.int .u64 u, .int .i64 i, .float .f64 f, .bool bb, .string t, .slice ra n cap]] w fun e w' => e = .returned (.bool (zeroV 98 u i f bb t n)) ∧ Below w.heap.size w w' := by
  have hb := w_bits
  have hn := w_not
  go_enter Tryz.func66, Tryz.ntmps66
  go_wp2_with fail
  all_goals (go_ret; refine ⟨?_, (Below.refl _ w).alloc (Nat.le_refl _) _⟩; clear hb hn; simp_all [zeroV, toList_nil])
set_option maxHeartbeats 4000000 in
theorem bare_t (u i : Int) (f : Nat) (bb : Bool) (t : ByteArray) (ra : Option Addr) (n cap : Nat) (w : World) :
    Calls Tryz.prog 66 #[.int .u8 116, .agg #[.int .u64 u, .int .i64 i, .float .f64 f, .bool bb, .string t, .slice ra n cap]] w fun e w' => e = .returned (.bool (zeroV 116 u i f bb t n)) ∧ Below w.heap.size w w' := by
  have hb := w_bits
  have hn := w_not
  go_enter Tryz.func66, Tryz.ntmps66
  go_wp2_with fail
  all_goals (go_ret; refine ⟨?_, (Below.refl _ w).alloc (Nat.le_refl _) _⟩; clear hb hn; simp_all [zeroV, toList_nil])
set_option maxHeartbeats 4000000 in
theorem bare_l (u i : Int) (f : Nat) (bb : Bool) (t : ByteArray) (ra : Option Addr) (n cap : Nat) (w : World) :
    Calls Tryz.prog 66 #[.int .u8 40, .agg #[.int .u64 u, .int .i64 i, .float .f64 f, .bool bb, .string t, .slice ra n cap]] w fun e w' => e = .returned (.bool (zeroV 40 u i f bb t n)) ∧ Below w.heap.size w w' := by
  have hb := w_bits
  have hn := w_not
  go_enter Tryz.func66, Tryz.ntmps66
  go_wp2_with fail
  all_goals (go_ret; refine ⟨?_, (Below.refl _ w).alloc (Nat.le_refl _) _⟩; clear hb hn; simp_all [zeroV, toList_nil])
theorem bare_it (it : It) (u : Nat) (i : Int) (f : Nat) (bb : Bool) (s : ByteArray) (l : List (List Fld)) (ra : Option Addr) (cap : Nat) (w : World) :
    Calls Tryz.prog 66 #[.int .u8 it.code, .agg #[.int .u64 (u : Int), .int .i64 i, .float .f64 f, .bool bb, .string s, .slice ra l.length cap]] w fun e w' => e = .returned (.bool (zeroBut it.letter (.mk u i f bb s.data.toList l))) ∧ Below w.heap.size w w' := by
  cases it with
  | u => simp only [It.letter, It.code]; rw [← zV_u]; exact bare_u _ _ _ _ _ _ _ _ _
  | i => simp only [It.letter, It.code]; rw [← zV_i]; exact bare_i _ _ _ _ _ _ _ _ _
  | f => simp only [It.letter, It.code]; rw [← zV_f]; exact bare_f _ _ _ _ _ _ _ _ _
  | b => simp only [It.letter, It.code]; rw [← zV_b]; exact bare_b _ _ _ _ _ _ _ _ _
  | t => simp only [It.letter, It.code]; rw [← zV_t]; exact bare_t _ _ _ _ _ _ _ _ _
  | l its => simp only [It.letter, It.code]; rw [← zV_l]; exact bare_l _ _ _ _ _ _ _ _ _

end Go.Proofs.YtidfgjgbigedeaaGreatDoor
end

section
namespace Go.Proofs.YtidfgjgbigedeaaGreatDoor
open Go.RowKit Go.Lib Go.Wq
set_option linter.unusedVariables false
set_option linter.unusedSimpArgs false
set_option maxRecDepth 100000

def ChkEnds (its : List It) (fs : List Fld) (w : World) (e : Ending) (w' : World) : Prop :=
  ((encAll its fs).isSome = true ∧ e = .returned (.tuple #[]) ∨ (encAll its fs).isSome = false ∧ Dies 41 0 w e w') ∧ Below w.heap.size w w'
theorem chk_bad {its : List It} {fs : List Fld} {w w' : World} {e : Ending} (h : (encAll its fs).isSome = false) (hd : Dies 41 0 w e w') (hb : Below w.heap.size w w') : ChkEnds its fs w e w' := ⟨Or.inr ⟨h, hd⟩, hb⟩
def ChkSays (its : List It) : Prop := ∀ (S : Nat → Prop) (ia : Option Addr) (ic : Nat) (fs : List Fld) (fa : Option Addr) (fc : Nat) (w : World),
  ItsZ w S its ia its.length → (∀ k, S k → k < w.heap.size) → FldsIn w w.heap.size fs fa fs.length → its.length ≤ 256 → (∀ y ∈ its, y.Sm) → fs.length < 4611686018427387904 → (∀ y ∈ fs, y.Len) →
  Calls Tryz.prog 36 #[.slice ia its.length ic, .slice fa fs.length fc] w fun e w' => ChkEnds its fs w e w'

set_option maxHeartbeats 4000000 in
theorem checkFields_any (its : List It) (IH : ∀ its', It.l its' ∈ its → ChkSays its') : ChkSays its := by
  intro S ia ic fs fa fc w hits hS hfs h256 hsm h62 hlen
  have HI := Lib.hid hits
  have HS0 := Lib.hid hS
  have HF := Lib.hid hfs
  have IH := Lib.hid IH
  have HSM := Lib.hid hsm
  have HLN := Lib.hid hlen
  clear hits hfs hsm hlen hS
  by_cases hln : fs.length = its.length
  · have hlnI : (fs.length : Int) = (its.length : Int) := by omega
    go_enter Tryz.func36, Tryz.ntmps36
    go_wp2_with fail
    refine (checkField_ok _).mono ?_
    rintro e w1 ⟨rfl, rfl⟩
    go_wp2_with fail
    go_loopw [16] (fun i wr => ∃ (k : Nat), k ≤ its.length ∧ i = .int .i64 (k : Int) ∧ (encAll (its.take k) (fs.take k)).isSome = true ∧ Below w.heap.size w wr) (fun i _ => its.length - (intOf i).toNat)
    case atStart => exact ⟨0, Nat.zero_le _, rfl, by simp [encAll], Below.refl _ _⟩
    case round =>
      obtain ⟨k, hk, rfl, henc, hbel⟩ := hrel
      have HE := Lib.hid henc
      have hsz := hbel.size
      by_cases hlt : k < its.length
      · have hlf : k < fs.length := by omega
        obtain ⟨ib, io, rfl, hit⟩ := (ItsZ.kept (S := S) (T := S) (fun j hj => hbel.block j (HS0.out j hj)) (fun _ h => h) _ _ _ HI.out).at k hlt
        obtain ⟨fb, fo, rfl, hfl⟩ := (FldsIn.kept (B := w.heap.size) (fun j hj => hbel.block j hj) _ _ _ HF.out).at k hlf
        obtain ⟨hSb, hcc, xa, xn, xc, hcx, hin⟩ := hit.all
        have HNo : Hid (∀ y, fs[k] = y → (encOne its[k] y).isSome = false → (encAll its fs).isSome = false) := Lib.hid (fun y hy h => by subst hy; rw [encAll_bad hlt hlf (none_of h)]; rfl)
        have HYes : Hid (∀ y, fs[k] = y → (encOne its[k] y).isSome = true → (encAll (its.take (k + 1)) (fs.take (k + 1))).isSome = true) := Lib.hid (fun y hy h => by subst hy; exact encAll_snocS hlt hlf HE.out h)
        have HLK := Lib.hid (HLN.out _ (List.getElem_mem hlf))
        have HSK := Lib.hid (HSM.out _ (List.getElem_mem hlt))
        have HIK : Hid (∀ inner, its[k] = It.l inner → ChkSays inner) := Lib.hid (fun inner e => IH.out inner (by rw [← e]; exact List.getElem_mem hlt))
        generalize hgi : its[k] = it at *
        generalize hgf : fs[k] = y at *
        obtain ⟨u, i, f, bb, t, l⟩ := y
        simp only [FldIn] at hfl
        obtain ⟨hfb, c0, c1, c2, c3, ⟨s, rfl, c4⟩, ra, rn, rc, c5, hrows⟩ := hfl
        obtain rfl := hrows.len
        obtain rfl := hin.len
        have HR := Lib.hid hrows
        have HIN := Lib.hid hin
        have hib : ib < w.heap.size := HS0.out ib hSb
        have hib2 : ib < wr.heap.size := by omega
        have hfb2 : fb < wr.heap.size := by omega
        have HBW := Lib.hid hbel
        clear henc hit hrows hin hgi hbel hSb
        have hlt' : (k : Int) < (its.length : Int) := by omega
        have hix : 0 ≤ (k : Int) ∧ (k : Int) < (its.length : Int) := by omega
        have hixf : 0 ≤ (k : Int) ∧ (k : Int) < (fs.length : Int) := by omega
        generalize hcd : it.code = cd at *
        obtain ⟨w2, hw2⟩ : ∃ w2, w2 = wr.alloc (.cells #[.int .u8 cd, .slice xa it.inner.length xc] 95) := ⟨_, rfl⟩
        have q0 : w2.cell? ⟨wr.heap.size, 0, none⟩ = some (.int .u8 cd) := by rw [hw2]; simp [go_sem]
        have q1 : w2.cell? ⟨wr.heap.size, 1, none⟩ = some (.slice xa it.inner.length xc) := by rw [hw2]; simp [go_sem]
        have C : ∀ o, w2.cell? ⟨fb, o, none⟩ = wr.cell? ⟨fb, o, none⟩ := fun o => by rw [hw2]; exact World.cell?_alloc_past _ _ _ hfb2
        have HB2 : Hid (Below w.heap.size w w2) := Lib.hid (by rw [hw2]; exact HBW.out.alloc hsz _)
        have hs2 : wr.heap.size < w2.heap.size := by rw [hw2]; simp
        have g0 : w2.cell? ⟨fb, fo + k * 6, none⟩ = some (.int .u64 (u : Int)) := (C _).trans c0
        have g1 : w2.cell? ⟨fb, fo + k * 6 + 1, none⟩ = some (.int .i64 i) := (C _).trans c1
        have g2 : w2.cell? ⟨fb, fo + k * 6 + 2, none⟩ = some (.float .f64 f) := (C _).trans c2
        have g3 : w2.cell? ⟨fb, fo + k * 6 + 3, none⟩ = some (.bool bb) := (C _).trans c3
        have g4 : w2.cell? ⟨fb, fo + k * 6 + 4, none⟩ = some (.string s) := (C _).trans c4
        have g5 : w2.cell? ⟨fb, fo + k * 6 + 5, none⟩ = some (.slice ra l.length rc) := (C _).trans c5
        have HBA : ∀ W, Like w2 W → Calls Tryz.prog 66 #[.int .u8 cd, .agg #[.int .u64 (u : Int), .int .i64 i, .float .f64 f, .bool bb, .string s, .slice ra l.length rc]] W fun e w' => e = .returned (.bool (zeroBut it.letter (.mk u i f bb s.data.toList l))) ∧ Below w2.heap.size w2 w' := fun W hW => by
          have h := bare_it it u i f bb s l ra rc W; rw [hcd] at h
          exact h.mono (fun e w' h => ⟨h.1, by have h2 := hW.below h.2; rwa [hW.heap] at h2⟩)
        cases hz : zeroBut it.letter (.mk u i f bb s.data.toList l) with
        | false =>
          have HNO : Hid ((encAll its fs).isSome = false) := Lib.hid (HNo.out _ rfl (by rw [encOne_isSome, hz]; rfl))
          rw [hz] at HBA
          have HBR := Lib.hid HBA
          clear hz HBA
          go_wp2_with fail
          rw [← hw2]
          clear hw2 C
          go_still_tail 6, (by kernel_rfl)
          change wpList _ _ _ _ _ w2.drew
          generalize hwd : w2.drew = wd
          have hlk : Like w2 wd := by rw [← hwd]; exact ⟨rfl, rfl, rfl, rfl⟩
          clear hwd
          go_wp2_with fail
          refine (HBR.out _ hlk).mono ?_
          rintro e w3 ⟨rfl, hb3⟩
          go_wp2_with fail
          refine (checkField_bad _).mono ?_
          rintro e w4 ⟨⟨pb, rfl, hd1⟩, hb4⟩
          have hs3 := hb3.size
          go_wp2_with fail
          exact ⟨rfl, chk_bad HNO.out ⟨pb, rfl, by have h1 := hd1.1; omega, hd1.2⟩ ((HB2.out.trans (hb3.mono (by omega))).trans (hb4.mono (by omega)))⟩
        | true =>
          rw [hz] at HBA
          have HBR := Lib.hid HBA
          clear HBA
          have HZ := Lib.hid hz
          clear hz
          go_wp2_with fail
          rw [← hw2]
          clear hw2 C
          go_still_tail 6, (by kernel_rfl)
          change wpList _ _ _ _ _ w2.drew
          generalize hwd : w2.drew = wd
          have hlk : Like w2 wd := by rw [← hwd]; exact ⟨rfl, rfl, rfl, rfl⟩
          clear hwd
          go_wp2_with fail
          refine (HBR.out _ hlk).mono ?_
          rintro e w3 ⟨rfl, hb3⟩
          go_wp2_with fail
          refine (checkField_ok _).mono ?_
          rintro e w4 ⟨rfl, rfl⟩
          have hs3 := hb3.size
          have C3 : ∀ b o, b < w2.heap.size → w3.cell? ⟨b, o, none⟩ = w2.cell? ⟨b, o, none⟩ := fun b o h => hb3.cell (p := ⟨b, o, none⟩) h
          have r1 : w3.cell? ⟨wr.heap.size, 1, none⟩ = some (.slice xa it.inner.length xc) := (C3 _ _ hs2).trans q1
          have r5 : w3.cell? ⟨fb, fo + k * 6 + 5, none⟩ = some (.slice ra l.length rc) := (C3 _ _ (by omega)).trans g5
          have HB3 : Hid (Below w.heap.size w w3) := Lib.hid (HB2.out.trans (hb3.mono (by omega)))
          have HSK' : Hid (it.inner.length ≤ 256 ∧ ∀ y ∈ it.inner, y.Sm) := Lib.hid (by
            have h := HSK.out
            cases h with
            | l h1 h2 => exact ⟨h1, h2⟩
            | _ => exact ⟨by simp [It.inner], by simp [It.inner]⟩)
          have HL0 : Hid (l ≠ [] → ChkSays it.inner) := Lib.hid (fun hne => by
            have hz := HZ.out
            cases it with
            | l its => exact HIK.out its rfl
            | _ => exfalso; simp [zeroBut, It.letter, Fld.L] at hz; exact hne hz.2)
          have hll := HLK.out.n
          simp only [Fld.L] at hll
          have HLR : Hid ((∀ r ∈ l, r.length < 4611686018427387904) ∧ ∀ r ∈ l, ∀ y ∈ r, y.Len) := Lib.hid ⟨fun r hr => HLK.out.r r hr, fun r hr => HLK.out.l r hr⟩
          have hs3w : wr.heap.size < w3.heap.size := by omega
          have HNoR : Hid (rows (fun r => encAll it.inner r) l = none → (encAll its fs).isSome = false) := Lib.hid (fun h => HNo.out _ rfl (by rw [encOne_isSome, HZ.out]; simp only [Fld.L, h]; rfl))
          have HYesR : Hid ((rows (fun r => encAll it.inner r) l).isSome = true → (encAll (its.take (k + 1)) (fs.take (k + 1))).isSome = true) := Lib.hid (fun h => HYes.out _ rfl (by rw [encOne_isSome, HZ.out]; simp only [Fld.L, h]; rfl))
          clear q0 q1 g0 g1 g2 g3 g4 g5 hb3 C3 hlk c0 c1 c2 c3 c4 c5 hcc hcx hs2
          obtain ⟨wo, hwo⟩ : ∃ wo : World, wo = wr := ⟨_, rfl⟩
          subst hwo
          go_wp2_with fail
          go_loopw [35] (fun i wq => ∃ (q : Nat), q ≤ l.length ∧ i = .int .i64 (q : Int) ∧ (rows (fun r => encAll it.inner r) (l.take q)).isSome = true ∧ Below w3.heap.size w3 wq) (fun i _ => l.length - (intOf i).toNat)
          case atStart => exact ⟨0, Nat.zero_le _, rfl, by simp [rows], Below.refl _ _⟩
          case round =>
            obtain ⟨q, hq, rfl, hrs, hbq⟩ := hrel
            have HBW2 : Hid (Below w.heap.size w wr) := Lib.hid (HB3.out.trans (hbq.mono (by omega)))
            have hsq := hbq.size
            have HRS := Lib.hid hrs
            have t1 : wr.cell? ⟨wo.heap.size, 1, none⟩ = some (.slice xa it.inner.length xc) := (hbq.cell (p := ⟨wo.heap.size, 1, none⟩) hs3w).trans r1
            have hbq' := Lib.hid hbq
            clear hrs hbq r1
            by_cases hql : q < l.length
            · have hqi : 0 ≤ (q : Int) ∧ (q : Int) < (l.length : Int) := by omega
              have hqj := hqi.2
              have hqb : (q : Int) < 4611686018427387904 := by omega
              have HRK := RowsIn.kept (w := wo) (w' := wr) (B := w.heap.size) (fun j hj => by rw [HBW2.out.block j hj, HBW.out.block j hj]) _ _ _ HR.out
              obtain ⟨rb, ro, rfl, hrb, sa, sn, sc, hrc, hfl6⟩ := HRK.at q hql
              obtain rfl := hfl6.len
              have hrb2 : rb < wr.heap.size := by omega
              have hne : l ≠ [] := by intro h; subst h; simp at hql
              have HCALL := HL0.out hne S xa xc l[q] sa sc wr (ItsZ.kept (w := wo) (fun j hj => by rw [HBW2.out.block j (HS0.out j hj), HBW.out.block j (HS0.out j hj)]) (fun _ h => h) _ _ _ HIN.out) (fun j hj => by have := HS0.out j hj; omega) (hfl6.kept_up (by omega)) HSK'.out.1 HSK'.out.2 (HLR.out.1 _ (List.getElem_mem hql)) (HLR.out.2 _ (List.getElem_mem hql))
              cases he : (encAll it.inner l[q]).isSome with
              | false =>
                have HNO : Hid ((encAll its fs).isSome = false) := Lib.hid (HNoR.out (rows_bad hql (none_of he)))
                have HC : Hid (Calls Tryz.prog 36 #[.slice xa it.inner.length xc, .slice sa l[q].length sc] wr fun e w' => Dies 41 0 wr e w' ∧ Below wr.heap.size wr w') := Lib.hid (HCALL.mono (fun e w' h => by
                  obtain ⟨h1, h2⟩ := h
                  rcases h1 with ⟨h3, -⟩ | ⟨-, h3⟩
                  · rw [he] at h3; cases h3
                  · exact ⟨h3, h2⟩))
                generalize l[q] = row at *
                clear HCALL he hfl6 HRK
                go_wp2_with fail
                refine HC.out.mono ?_
                rintro e w5 ⟨⟨pb, rfl, hd1⟩, hb5⟩
                go_wp2_with fail
                exact ⟨rfl, chk_bad HNO.out ⟨pb, rfl, by have h1 := hd1.1; omega, hd1.2⟩ (HBW2.out.trans (hb5.mono (by omega)))⟩
              | true =>
                have HRS2 : Hid ((rows (fun r => encAll it.inner r) (l.take (q + 1))).isSome = true) := Lib.hid (rows_snocS hql HRS.out he)
                have HC : Hid (Calls Tryz.prog 36 #[.slice xa it.inner.length xc, .slice sa l[q].length sc] wr fun e w' => e = .returned (.tuple #[]) ∧ Below wr.heap.size wr w') := Lib.hid (HCALL.mono (fun e w' h => by
                  obtain ⟨h1, h2⟩ := h
                  rcases h1 with ⟨-, h3⟩ | ⟨h3, -⟩
                  · exact ⟨h3, h2⟩
                  · rw [he] at h3; cases h3))
                generalize l[q] = row at *
                clear HCALL he hfl6 HRK
                have HQ : Hid (Below w3.heap.size w3 wr) := hbq'
                go_wp2_with fail
                refine HC.out.mono ?_
                rintro e w5 ⟨rfl, hb5⟩
                go_wp2_with fail
                refine ⟨⟨q + 1, by omega, by simp, HRS2.out, HQ.out.trans (hb5.mono hsq)⟩, ?_⟩
                simp [intOf]; omega
            · obtain rfl : q = l.length := by omega
              have hqn : ¬ ((l.length : Int) < (l.length : Int)) := by omega
              have HALL : Hid ((encAll (its.take (k + 1)) (fs.take (k + 1))).isSome = true) := Lib.hid (HYesR.out (by have h := HRS.out; rwa [List.take_length] at h))
              go_wp2_with fail
              refine ⟨⟨k + 1, by omega, by simp, HALL.out, HBW2.out⟩, ?_⟩
              simp [intOf]; omega
      · obtain rfl : k = its.length := by omega
        have HALL : Hid ((encAll its fs).isSome = true) := Lib.hid (by have h1 := HE.out; rwa [List.take_length, List.take_of_length_le (by omega)] at h1)
        have hlt' : ¬ ((its.length : Int) < (its.length : Int)) := by omega
        have HBW := Lib.hid hbel
        clear henc hbel
        go_wp2_with fail
        first | go_end0 | refine bodyPost_ret (results_none rfl _ _ _) rfl ?_
        exact ⟨Or.inl ⟨HALL.out, rfl⟩, HBW.out⟩
  · have HNO : Hid ((encAll its fs).isSome = false) := Lib.hid (by
      cases h : encAll its fs with
      | none => rfl
      | some a => exact absurd (encAll_len h).symm hln)
    have ht : ((fs.length : Int) == (its.length : Int)) = false := by simp; omega
    have ht2 : (fs.length == its.length) = false := by simp; omega
    go_enter Tryz.func36, Tryz.ntmps36
    go_wp2_with fail
    first | rw [ht] | rw [ht2] | skip
    refine (checkField_bad _).mono ?_
    rintro e w4 ⟨⟨pb, rfl, hd1⟩, hb4⟩
    go_wp2_with fail
    exact ⟨rfl, chk_bad HNO.out ⟨pb, rfl, hd1⟩ hb4⟩
theorem checkFields_says (its : List It) : ChkSays its := its_ind ChkSays checkFields_any its
end Go.Proofs.YtidfgjgbigedeaaGreatDoor
end
