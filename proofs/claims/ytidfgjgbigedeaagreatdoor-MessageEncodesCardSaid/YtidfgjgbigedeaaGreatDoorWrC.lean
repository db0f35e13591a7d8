/- The reference's put: fields behind bytes. -/
import Derived.Test.YtidfgjgbigedeaaGreatDoorWrA
import Derived.Test.YtidfgjgbigedeaaGreatDoorWqAll
import Derived.StillTailTactics
import Derived.RegionCalls
import Derived.Deep.RegionWith
namespace Go.Proofs.YtidfgjgbigedeaaGreatDoor
open Go.RowKit Go.Lib Go.Wq
set_option linter.unusedVariables false
set_option linter.unusedSimpArgs false
set_option maxRecDepth 100000

theorem w_store (a : Addr) (n : Nat) (m : Mode) (w : World) : (store a (.float .f64 n) m).run Tryz.prog w = stored Tryz.prog w a (.float .f64 n) m := run_store Tryz.prog w a _ m rfl
theorem sz (s : ByteArray) : s.data.toList.isEmpty = (s.size == 0) := by
  rw [Bool.eq_iff_iff, List.isEmpty_iff_length_eq_zero, Array.length_toList]
  exact (beq_iff_eq (a := s.size) (b := 0)).symm
theorem ln {α : Type} (l : List α) : l.isEmpty = ((l.length : Int) == 0) := by
  rw [Bool.eq_iff_iff, List.isEmpty_iff_length_eq_zero]; simp
theorem un (u : Nat) : (u == 0) = ((u : Int) == 0) := by rw [Bool.eq_iff_iff]; simp
theorem zV_u (u : Nat) (i : Int) (f : Nat) (bb : Bool) (s : ByteArray) (l : List (List Fld)) : zeroV 117 u i f bb s l.length = zeroBut 'u' (.mk u i f bb s.data.toList l) := by
  simp [zeroV, zeroBut, Fld.U, Fld.I, Fld.F, Fld.B, Fld.T, Fld.L, sz, ln, un]
theorem zV_i (u : Nat) (i : Int) (f : Nat) (bb : Bool) (s : ByteArray) (l : List (List Fld)) : zeroV 105 u i f bb s l.length = zeroBut 'i' (.mk u i f bb s.data.toList l) := by
  simp [zeroV, zeroBut, Fld.U, Fld.I, Fld.F, Fld.B, Fld.T, Fld.L, sz, ln, un]
theorem zV_f (u : Nat) (i : Int) (f : Nat) (bb : Bool) (s : ByteArray) (l : List (List Fld)) : zeroV 102 u i f bb s l.length = zeroBut 'f' (.mk u i f bb s.data.toList l) := by
  simp [zeroV, zeroBut, Fld.U, Fld.I, Fld.F, Fld.B, Fld.T, Fld.L, sz, ln, un]
theorem zV_b (u : Nat) (i : Int) (f : Nat) (bb : Bool) (s : ByteArray) (l : List (List Fld)) : zeroV 98 u i f bb s l.length = zeroBut 'b' (.mk u i f bb s.data.toList l) := by
  simp [zeroV, zeroBut, Fld.U, Fld.I, Fld.F, Fld.B, Fld.T, Fld.L, sz, ln, un]
theorem zV_t (u : Nat) (i : Int) (f : Nat) (bb : Bool) (s : ByteArray) (l : List (List Fld)) : zeroV 116 u i f bb s l.length = zeroBut 't' (.mk u i f bb s.data.toList l) := by
  simp [zeroV, zeroBut, Fld.U, Fld.I, Fld.F, Fld.B, Fld.T, Fld.L, sz, ln, un]
theorem zV_l (u : Nat) (i : Int) (f : Nat) (bb : Bool) (s : ByteArray) (l : List (List Fld)) : zeroV 40 u i f bb s l.length = zeroBut 'l' (.mk u i f bb s.data.toList l) := by
  simp [zeroV, zeroBut, Fld.U, Fld.I, Fld.F, Fld.B, Fld.T, Fld.L, sz, ln, un]
theorem mk_size (l : List UInt8) : (⟨l.toArray⟩ : ByteArray).size = l.length := rfl
theorem one_byte (c : UInt8) (x : Int) (hx : x = (c.toNat : Int)) (w : World) : (convert 61 9 (.slice (some ⟨w.heap.size, 0, none⟩) 1 1)).run Tryz.prog (w.alloc (.cells #[.int .u8 x] 5)) = .ok (.string ⟨#[c]⟩) (w.alloc (.cells #[.int .u8 x] 5)) := by
  subst hx
  exact run_convert_bytes_back (P := Tryz.prog) (w.alloc (.cells #[.int .u8 (c.toNat : Int)] 5)) 61 9 5 ⟨w.heap.size, 0, none⟩ 1 [c] Tryz.underlying61 Tryz.underlying5 Tryz.underlying9 (fun j hj => by
    have : j = 0 := by simp at hj; omega
    subst this
    simp [Addr.add])
/-- How put ends. -/
def PutEnds (base : Nat) (its : List It) (fs : List Fld) (x : List UInt8) (v : Value) (w : World) (e : Ending) (w' : World) : Prop :=
  match encAll its fs with
  | some a => ∃ (v' : Value) (b' : List UInt8), e = .returned (.tuple #[v', .bool true]) ∧ w'.ownsRow base 5 1 v' b'.length (bcs b') ∧ Cap b' (x ++ a) ∧ Grew w w' v v'
  | none => ∃ v' : Value, e = .returned (.tuple #[v', .bool false]) ∧ Below base w w'

theorem put_none {base : Nat} {its : List It} {fs : List Fld} {x : List UInt8} {v v' : Value} {w w' : World} (h : encAll its fs = none) (hb : Below base w w') : PutEnds base its fs x v w (.returned (.tuple #[v', .bool false])) w' := by
  unfold PutEnds; rw [h]; exact ⟨v', rfl, hb⟩
theorem put_some {base : Nat} {its : List It} {fs : List Fld} {x a : List UInt8} {v v' : Value} {w w' : World} {b' : List UInt8} (h : encAll its fs = some a) (ho : w'.ownsRow base 5 1 v' b'.length (bcs b')) (hc : Cap b' (x ++ a)) (hg : Grew w w' v v') :
    PutEnds base its fs x v w (.returned (.tuple #[v', .bool true])) w' := by
  unfold PutEnds; rw [h]; exact ⟨v', b', rfl, ho, hc, hg⟩

theorem own_below {w w' : World} {base e size : Nat} {v : Value} {n : Nat} {xs : List Value} (h : w.ownsRow base e size v n xs) (b : Below w.heap.size w w') : w'.ownsRow base e size v n xs :=
  h.kept (row := none) ⟨b.os, b.tape, b.output, b.size, fun k hk _ => b.block k hk⟩ (by cases v.ownBlock <;> simp)

def PutSays (its : List It) : Prop := ∀ (base : Nat) (v : Value) (b x : List UInt8) (ia : Option Addr) (ic : Nat) (fs : List Fld) (fa : Option Addr) (fn fc : Nat) (w : World),
  w.ownsRow base 5 1 v b.length (bcs b) → Cap b x → base ≤ w.heap.size → ItsIn w base its ia its.length → FldsIn w base fs fa fn → (∀ y ∈ fs, y.Ok) → (∀ y ∈ fs, y.Fit) → its.length ≤ 256 → (∀ y ∈ its, y.Sm) →
  Calls Tryz.prog 42 #[v, .slice ia its.length ic, .slice fa fn fc] w fun e w' => PutEnds base its fs x v w e w'

set_option maxHeartbeats 4000000 in
set_option maxRecDepth 100000 in
theorem put_any (its : List It) (IH : ∀ its', It.l its' ∈ its → PutSays its') : PutSays its := by
  intro base v b x ia ic fs fa fn fc w hown hcap hbase hits hfs hok hfit h256 hsm
  have hst := w_store
  have HO := Lib.hid hown
  have HC := Lib.hid hcap
  have HI := Lib.hid hits
  have HF := Lib.hid hfs
  have IH := Lib.hid IH
  have HOK := Lib.hid hok
  have HSM := Lib.hid hsm
  have HFT := Lib.hid hfit
  clear hown hcap hits hfs hok hsm hfit
  have hfn := HF.out.len
  by_cases hlen : fs.length = its.length
  · obtain rfl : fn = its.length := by omega
    clear hfn
    go_enter Tryz.func42, Tryz.ntmps42
    go_wp2_with fail
    go_loopw [0, 8] (fun u i wr => ∃ (k : Nat) (a b' : List UInt8), k ≤ its.length ∧ i = .int .i64 (k : Int) ∧ encAll (its.take k) (fs.take k) = some a ∧ wr.ownsRow base 5 1 u b'.length (bcs b') ∧ Cap b' (x ++ a) ∧ Grew w wr v u) (fun _ i _ => its.length - (intOf i).toNat)
    case atStart => exact ⟨0, [], b, Nat.zero_le _, rfl, by simp [encAll], HO.out, by simpa using HC.out, Grew.refl _ _⟩
    case round =>
      obtain ⟨k, a, b', hk, rfl, henc, hown, hcap, hgrew⟩ := hrel
      have HW := Lib.hid hown
      have HCP := Lib.hid hcap
      have HG := Lib.hid hgrew
      have HE := Lib.hid henc
      have hbel : Below base w wr := hgrew.below hbase (fun k hk => (HO.out.lt k hk).1)
      have hsz := hgrew.g.size
      by_cases hlt : k < its.length
      · have hlf : k < fs.length := by omega
        obtain ⟨ib, io, rfl, hit⟩ := (ItsIn.kept (B := base) (fun j hj => hbel.block j hj) _ _ _ HI.out).at k hlt
        obtain ⟨fb, fo, rfl, hfl⟩ := (FldsIn.kept (B := base) (fun j hj => hbel.block j hj) _ _ _ HF.out).at k hlf
        have hcode := hit.code
        have HIT := Lib.hid hit
        have hIT : Hid (its[k] = its[k]) := Lib.hid rfl
        generalize hgi : its[k] = it at *
        generalize hgf : fs[k] = y at *
        have HGI := Lib.hid hgi
        have HGF := Lib.hid hgf
        have hyok : y.Ok := by rw [← hgf]; exact HOK.out _ (List.getElem_mem hlf)
        have HY := Lib.hid hyok
        have hyfit : y.Fit := by rw [← hgf]; exact HFT.out _ (List.getElem_mem hlf)
        have HYF := Lib.hid hyfit
        clear hyok hyfit
        obtain ⟨u, i, f, bb, t, l⟩ := y
        have HTL : Hid (t.length ≤ 140737488351232) := Lib.hid HYF.out.t
        simp only [FldIn] at hfl
        obtain ⟨hfb, c0, c1, c2, c3, ⟨s, hs, c4⟩, ra, rn, rc, c5, hrows⟩ := hfl
        have HR := Lib.hid hrows
        have HS := Lib.hid hs
        obtain ⟨hib, hcc⟩ := hcode
        have hib2 : ib < wr.heap.size := by omega
        have hfb2 : fb < wr.heap.size := by omega
        have HBW := Lib.hid hbel
        clear hown hcap hgrew henc hit hrows hs hgi hgf hbel
        have hlt' : (k : Int) < (its.length : Int) := by omega
        have hix : 0 ≤ (k : Int) ∧ (k : Int) < (its.length : Int) := by omega
        obtain ⟨w2, hw2⟩ : ∃ w2, w2 = wr.alloc (.cells #[.int .u64 (u : Int), .int .i64 i, .float .f64 f, .bool bb, .string s, .slice ra rn rc] 57) := ⟨_, rfl⟩
        have p0 : w2.cell? ⟨wr.heap.size, 0, none⟩ = some (.int .u64 (u : Int)) := by rw [hw2]; simp [go_sem]
        have p1 : w2.cell? ⟨wr.heap.size, 1, none⟩ = some (.int .i64 i) := by rw [hw2]; simp [go_sem]
        have p2 : w2.cell? ⟨wr.heap.size, 2, none⟩ = some (.float .f64 f) := by rw [hw2]; simp [go_sem]
        have p3 : w2.cell? ⟨wr.heap.size, 3, none⟩ = some (.bool bb) := by rw [hw2]; simp [go_sem]
        have p4 : w2.cell? ⟨wr.heap.size, 4, none⟩ = some (.string s) := by rw [hw2]; simp [go_sem]
        have p5 : w2.cell? ⟨wr.heap.size, 5, none⟩ = some (.slice ra rn rc) := by rw [hw2]; simp [go_sem]
        have HC2 : Hid (∀ o, w2.cell? ⟨ib, o, none⟩ = wr.cell? ⟨ib, o, none⟩) := Lib.hid (fun o => by rw [hw2]; exact World.cell?_alloc_past _ _ _ hib2)
        have HB2 : Hid (Below wr.heap.size wr w2) := Lib.hid (by rw [hw2]; exact (Below.refl _ wr).alloc (Nat.le_refl _) _)
        have H2S : Hid (w2.heap.size = wr.heap.size + 1) := Lib.hid (by rw [hw2]; simp)
        cases it with
        | u =>
          simp only [It.code] at hcc
          have h2cc := (HC2.out _).trans hcc
          cases hz : zeroV 117 u i f bb s rn with
          | false =>
            have HZ := Lib.hid hz
            have HNo : Hid (encAll its fs = none) := Lib.hid (encAll_bad hlt hlf (by rw [HGI.out, HGF.out]; have hl := HR.out.len; subst hl; have hS := HS.out; subst hS; rw [zV_u] at hz; simp only [encOne, hz]; rfl))
            clear hz
            go_wp2_with fail
            rw [← hw2]
            clear hw2
            go_still_tail 6, (by kernel_rfl)
            change wpList _ _ _ _ _ w2.drew
            generalize hwd : w2.drew = wd
            have hlk : Like w2 wd := by rw [← hwd]; exact ⟨rfl, rfl, rfl, rfl⟩
            clear hwd
            go_wp2_with fail
            refine (zero_u _ _ _ _ _ _ _ _ _).mono ?_
            rintro e w3 ⟨rfl, hb3⟩
            rw [HZ.out]
            replace hb3 : Below w2.heap.size w2 w3 := by have h := hlk.below hb3; rwa [hlk.heap] at h
            clear hlk
            all_goals (
              go_wp2_with fail
              refine bodyPost_ret (v := .tuple #[u0, .bool false]) (by simp [results, Tryz.results42, go_sem]) rfl ?_
              exact put_none HNo.out (HBW.out.trans ((HB2.out.mono (by omega)).trans (hb3.mono (by have h1 := H2S.out; omega)))))
          | true =>
            have HZ := Lib.hid hz
            have HYes : Hid (encAll (its.take (k + 1)) (fs.take (k + 1)) = some (a ++ vint u)) := Lib.hid (by
              have hl := HR.out.len; subst hl; have hS := HS.out; subst hS; rw [zV_u] at hz
              rw [encAll_snoc hlt hlf, HE.out, HGI.out, HGF.out]; simp only [encOne, hz]; rfl)
            clear hz
            have hu : u < 18446744073709551616 := HY.out.hu
            have HU := Lib.hid hu
            clear hu
            go_wp2_with fail
            rw [← hw2]
            clear hw2
            go_still_tail 6, (by kernel_rfl)
            change wpList _ _ _ _ _ w2.drew
            generalize hwd : w2.drew = wd
            have hlk : Like w2 wd := by rw [← hwd]; exact ⟨rfl, rfl, rfl, rfl⟩
            clear hwd
            go_wp2_with fail
            refine (zero_u _ _ _ _ _ _ _ _ _).mono ?_
            rintro e w3 ⟨rfl, hb3⟩
            rw [HZ.out]
            replace hb3 : Below w2.heap.size w2 w3 := by have h := hlk.below hb3; rwa [hlk.heap] at h
            clear hlk
            all_goals (
              have D : ∀ j, w3.cell? ⟨wr.heap.size, j, none⟩ = w2.cell? ⟨wr.heap.size, j, none⟩ := fun j => hb3.cell (p := ⟨wr.heap.size, j, none⟩) (by have h1 := H2S.out; simp; omega)
              have d0 : w3.cell? ⟨wr.heap.size, 0, none⟩ = some (.int .u64 (u : Int)) := (D 0).trans p0
              have d1 : w3.cell? ⟨wr.heap.size, 1, none⟩ = some (.int .i64 i) := (D 1).trans p1
              have d2 : w3.cell? ⟨wr.heap.size, 2, none⟩ = some (.float .f64 f) := (D 2).trans p2
              have d3 : w3.cell? ⟨wr.heap.size, 3, none⟩ = some (.bool bb) := (D 3).trans p3
              have d4 : w3.cell? ⟨wr.heap.size, 4, none⟩ = some (.string s) := (D 4).trans p4
              have d5 : w3.cell? ⟨wr.heap.size, 5, none⟩ = some (.slice ra rn rc) := (D 5).trans p5
              have C : ∀ o, w3.cell? ⟨ib, o, none⟩ = wr.cell? ⟨ib, o, none⟩ := fun o => (hb3.cell (p := ⟨ib, o, none⟩) (by have h1 := H2S.out; simp; omega)).trans (HC2.out o)
              have hcc3 : w3.cell? ⟨ib, io + k * 2, none⟩ = some (.int .u8 117) := (C _).trans hcc
              have HG3 : Hid (Grew wr w3 u0 u0) := Lib.hid (Grew.of_below u0 (HB2.out.trans (hb3.mono (by have h1 := H2S.out; omega))))
              have HO3 : Hid (w3.ownsRow base 5 1 u0 b'.length (bcs b')) := Lib.hid (own_below (own_below HW.out HB2.out) hb3)
              have h3s : Hid (wr.heap.size < w3.heap.size) := Lib.hid (by have h1 := hb3.size; have h2 := H2S.out; omega)
              clear p0 p1 p2 p3 p4 p5 h2cc
              clear D C
              have HB3 := Lib.hid hb3
              clear hb3
              go_wp2_with fail
              refine (refVarint_any u HU.out w3).mono ?_
              rintro e w4 ⟨rfl, hb4⟩
              have HB4 := Lib.hid hb4
              clear hb4
              go_wp2_with fail
              refine (add_any base u0 b'.length b' (x ++ a) _ w4 rfl (own_below HO3.out HB4.out) HCP.out (Nat.le_trans hbase (Nat.le_trans hsz (Nat.le_trans HG3.out.g.size HB4.out.size))) (by rw [mk_size]; have := vint_ten _ HU.out; omega)).mono ?_
              rintro e w5 ⟨v', b5, rfl, ho5, hc5, hg5⟩
              have HO5 := Lib.hid ho5
              have HC5 := Lib.hid hc5
              have HG5 : Hid (Grew w w5 v v') := Lib.hid (((HG.out.trans HG3.out).trans (Grew.of_below u0 HB4.out)).trans hg5)
              clear ho5 hc5 hg5
              go_wp2_with fail
              go_roundw
              case rel => exact ⟨k + 1, a ++ vint u, b5, by omega, by first | go_num | simp, HYes.out, HO5.out, by have := HC5.out; rwa [List.append_assoc] at this, HG5.out⟩
              case measure => simp [intOf]; omega)
        | i =>
          simp only [It.code] at hcc
          have h2cc := (HC2.out _).trans hcc
          cases hz : zeroV 105 u i f bb s rn with
          | false =>
            have HZ := Lib.hid hz
            have HNo : Hid (encAll its fs = none) := Lib.hid (encAll_bad hlt hlf (by rw [HGI.out, HGF.out]; have hl := HR.out.len; subst hl; have hS := HS.out; subst hS; rw [zV_i] at hz; simp only [encOne, hz]; rfl))
            clear hz
            go_wp2_with fail
            rw [← hw2]
            clear hw2
            go_still_tail 6, (by kernel_rfl)
            change wpList _ _ _ _ _ w2.drew
            generalize hwd : w2.drew = wd
            have hlk : Like w2 wd := by rw [← hwd]; exact ⟨rfl, rfl, rfl, rfl⟩
            clear hwd
            go_wp2_with fail
            refine (zero_i _ _ _ _ _ _ _ _ _).mono ?_
            rintro e w3 ⟨rfl, hb3⟩
            rw [HZ.out]
            replace hb3 : Below w2.heap.size w2 w3 := by have h := hlk.below hb3; rwa [hlk.heap] at h
            clear hlk
            all_goals (
              go_wp2_with fail
              refine bodyPost_ret (v := .tuple #[u0, .bool false]) (by simp [results, Tryz.results42, go_sem]) rfl ?_
              exact put_none HNo.out (HBW.out.trans ((HB2.out.mono (by omega)).trans (hb3.mono (by have h1 := H2S.out; omega)))))
          | true =>
            have HZ := Lib.hid hz
            have HYes : Hid (encAll (its.take (k + 1)) (fs.take (k + 1)) = some (a ++ vint (zig i))) := Lib.hid (by
              have hl := HR.out.len; subst hl; have hS := HS.out; subst hS; rw [zV_i] at hz
              rw [encAll_snoc hlt hlf, HE.out, HGI.out, HGF.out]; simp only [encOne, hz]; rfl)
            clear hz
            have HU : Hid (zig i < 18446744073709551616) := Lib.hid (zig_lt HY.out.h0 HY.out.h1)
            go_wp2_with fail
            rw [← hw2]
            clear hw2
            go_still_tail 6, (by kernel_rfl)
            change wpList _ _ _ _ _ w2.drew
            generalize hwd : w2.drew = wd
            have hlk : Like w2 wd := by rw [← hwd]; exact ⟨rfl, rfl, rfl, rfl⟩
            clear hwd
            go_wp2_with fail
            refine (zero_i _ _ _ _ _ _ _ _ _).mono ?_
            rintro e w3 ⟨rfl, hb3⟩
            rw [HZ.out]
            replace hb3 : Below w2.heap.size w2 w3 := by have h := hlk.below hb3; rwa [hlk.heap] at h
            clear hlk
            all_goals (
              have D : ∀ j, w3.cell? ⟨wr.heap.size, j, none⟩ = w2.cell? ⟨wr.heap.size, j, none⟩ := fun j => hb3.cell (p := ⟨wr.heap.size, j, none⟩) (by have h1 := H2S.out; simp; omega)
              have d0 : w3.cell? ⟨wr.heap.size, 0, none⟩ = some (.int .u64 (u : Int)) := (D 0).trans p0
              have d1 : w3.cell? ⟨wr.heap.size, 1, none⟩ = some (.int .i64 i) := (D 1).trans p1
              have d2 : w3.cell? ⟨wr.heap.size, 2, none⟩ = some (.float .f64 f) := (D 2).trans p2
              have d3 : w3.cell? ⟨wr.heap.size, 3, none⟩ = some (.bool bb) := (D 3).trans p3
              have d4 : w3.cell? ⟨wr.heap.size, 4, none⟩ = some (.string s) := (D 4).trans p4
              have d5 : w3.cell? ⟨wr.heap.size, 5, none⟩ = some (.slice ra rn rc) := (D 5).trans p5
              have C : ∀ o, w3.cell? ⟨ib, o, none⟩ = wr.cell? ⟨ib, o, none⟩ := fun o => (hb3.cell (p := ⟨ib, o, none⟩) (by have h1 := H2S.out; simp; omega)).trans (HC2.out o)
              have hcc3 : w3.cell? ⟨ib, io + k * 2, none⟩ = some (.int .u8 105) := (C _).trans hcc
              have HG3 : Hid (Grew wr w3 u0 u0) := Lib.hid (Grew.of_below u0 (HB2.out.trans (hb3.mono (by have h1 := H2S.out; omega))))
              have HO3 : Hid (w3.ownsRow base 5 1 u0 b'.length (bcs b')) := Lib.hid (own_below (own_below HW.out HB2.out) hb3)
              have h3s : Hid (wr.heap.size < w3.heap.size) := Lib.hid (by have h1 := hb3.size; have h2 := H2S.out; omega)
              clear p0 p1 p2 p3 p4 p5 h2cc
              clear D C
              have HB3 := Lib.hid hb3
              clear hb3
              by_cases hI : i < 0
              · have hx := zig_neg i hI HY.out.h0
                go_wp2_with fail
                refine (refVarint_any (zig i) HU.out w3).mono ?_
                rintro e w4 ⟨rfl, hb4⟩
                have HB4 := Lib.hid hb4
                clear hb4
                go_wp2_with fail
                refine (add_any base u0 b'.length b' (x ++ a) _ w4 rfl (own_below HO3.out HB4.out) HCP.out (Nat.le_trans hbase (Nat.le_trans hsz (Nat.le_trans HG3.out.g.size HB4.out.size))) (by rw [mk_size]; have := vint_ten _ HU.out; omega)).mono ?_
                rintro e w5 ⟨v', b5, rfl, ho5, hc5, hg5⟩
                have HO5 := Lib.hid ho5
                have HC5 := Lib.hid hc5
                have HG5 : Hid (Grew w w5 v v') := Lib.hid (((HG.out.trans HG3.out).trans (Grew.of_below u0 HB4.out)).trans hg5)
                clear ho5 hc5 hg5
                go_wp2_with fail
                go_roundw
                case rel => exact ⟨k + 1, a ++ vint (zig i), b5, by omega, by first | go_num | simp, HYes.out, HO5.out, by have := HC5.out; rwa [List.append_assoc] at this, HG5.out⟩
                case measure => simp [intOf]; omega
              · have hx := zig_pos i hI HY.out.h1
                go_wp2_with fail
                refine (refVarint_any (zig i) HU.out w3).mono ?_
                rintro e w4 ⟨rfl, hb4⟩
                have HB4 := Lib.hid hb4
                clear hb4
                go_wp2_with fail
                refine (add_any base u0 b'.length b' (x ++ a) _ w4 rfl (own_below HO3.out HB4.out) HCP.out (Nat.le_trans hbase (Nat.le_trans hsz (Nat.le_trans HG3.out.g.size HB4.out.size))) (by rw [mk_size]; have := vint_ten _ HU.out; omega)).mono ?_
                rintro e w5 ⟨v', b5, rfl, ho5, hc5, hg5⟩
                have HO5 := Lib.hid ho5
                have HC5 := Lib.hid hc5
                have HG5 : Hid (Grew w w5 v v') := Lib.hid (((HG.out.trans HG3.out).trans (Grew.of_below u0 HB4.out)).trans hg5)
                clear ho5 hc5 hg5
                go_wp2_with fail
                go_roundw
                case rel => exact ⟨k + 1, a ++ vint (zig i), b5, by omega, by first | go_num | simp, HYes.out, HO5.out, by have := HC5.out; rwa [List.append_assoc] at this, HG5.out⟩
                case measure => simp [intOf]; omega)
        | f =>
          simp only [It.code] at hcc
          have h2cc := (HC2.out _).trans hcc
          cases hz : zeroV 102 u i f bb s rn with
          | false =>
            have HZ := Lib.hid hz
            have HNo : Hid (encAll its fs = none) := Lib.hid (encAll_bad hlt hlf (by rw [HGI.out, HGF.out]; have hl := HR.out.len; subst hl; have hS := HS.out; subst hS; rw [zV_f] at hz; simp only [encOne, hz]; rfl))
            clear hz
            go_wp2_with fail
            rw [← hw2]
            clear hw2
            go_still_tail 6, (by kernel_rfl)
            change wpList _ _ _ _ _ w2.drew
            generalize hwd : w2.drew = wd
            have hlk : Like w2 wd := by rw [← hwd]; exact ⟨rfl, rfl, rfl, rfl⟩
            clear hwd
            go_wp2_with fail
            refine (zero_f _ _ _ _ _ _ _ _ _).mono ?_
            rintro e w3 ⟨rfl, hb3⟩
            rw [HZ.out]
            replace hb3 : Below w2.heap.size w2 w3 := by have h := hlk.below hb3; rwa [hlk.heap] at h
            clear hlk
            all_goals (
              go_wp2_with fail
              refine bodyPost_ret (v := .tuple #[u0, .bool false]) (by simp [results, Tryz.results42, go_sem]) rfl ?_
              exact put_none HNo.out (HBW.out.trans ((HB2.out.mono (by omega)).trans (hb3.mono (by have h1 := H2S.out; omega)))))
          | true =>
            have HZ := Lib.hid hz
            have HYes : Hid (encAll (its.take (k + 1)) (fs.take (k + 1)) = some (a ++ bytesOf 8 f)) := Lib.hid (by
              have hl := HR.out.len; subst hl; have hS := HS.out; subst hS; rw [zV_f] at hz
              rw [encAll_snoc hlt hlf, HE.out, HGI.out, HGF.out]; simp only [encOne, hz]; rfl)
            clear hz
            go_wp2_with fail
            rw [← hw2]
            clear hw2
            go_still_tail 6, (by kernel_rfl)
            change wpList _ _ _ _ _ w2.drew
            generalize hwd : w2.drew = wd
            have hlk : Like w2 wd := by rw [← hwd]; exact ⟨rfl, rfl, rfl, rfl⟩
            clear hwd
            go_wp2_with fail
            refine (zero_f _ _ _ _ _ _ _ _ _).mono ?_
            rintro e w3 ⟨rfl, hb3⟩
            rw [HZ.out]
            replace hb3 : Below w2.heap.size w2 w3 := by have h := hlk.below hb3; rwa [hlk.heap] at h
            clear hlk
            all_goals (
              have D : ∀ j, w3.cell? ⟨wr.heap.size, j, none⟩ = w2.cell? ⟨wr.heap.size, j, none⟩ := fun j => hb3.cell (p := ⟨wr.heap.size, j, none⟩) (by have h1 := H2S.out; simp; omega)
              have d0 : w3.cell? ⟨wr.heap.size, 0, none⟩ = some (.int .u64 (u : Int)) := (D 0).trans p0
              have d1 : w3.cell? ⟨wr.heap.size, 1, none⟩ = some (.int .i64 i) := (D 1).trans p1
              have d2 : w3.cell? ⟨wr.heap.size, 2, none⟩ = some (.float .f64 f) := (D 2).trans p2
              have d3 : w3.cell? ⟨wr.heap.size, 3, none⟩ = some (.bool bb) := (D 3).trans p3
              have d4 : w3.cell? ⟨wr.heap.size, 4, none⟩ = some (.string s) := (D 4).trans p4
              have d5 : w3.cell? ⟨wr.heap.size, 5, none⟩ = some (.slice ra rn rc) := (D 5).trans p5
              have C : ∀ o, w3.cell? ⟨ib, o, none⟩ = wr.cell? ⟨ib, o, none⟩ := fun o => (hb3.cell (p := ⟨ib, o, none⟩) (by have h1 := H2S.out; simp; omega)).trans (HC2.out o)
              have hcc3 : w3.cell? ⟨ib, io + k * 2, none⟩ = some (.int .u8 102) := (C _).trans hcc
              have HG3 : Hid (Grew wr w3 u0 u0) := Lib.hid (Grew.of_below u0 (HB2.out.trans (hb3.mono (by have h1 := H2S.out; omega))))
              have HO3 : Hid (w3.ownsRow base 5 1 u0 b'.length (bcs b')) := Lib.hid (own_below (own_below HW.out HB2.out) hb3)
              have h3s : Hid (wr.heap.size < w3.heap.size) := Lib.hid (by have h1 := hb3.size; have h2 := H2S.out; omega)
              clear p0 p1 p2 p3 p4 p5 h2cc
              clear D C
              have HB3 := Lib.hid hb3
              clear hb3
              have hwb := w_bits
              have HBR : Hid (base ≤ wr.heap.size) := Lib.hid (by have h1 := HG.out.g.size; omega)
              go_wp2_with fail
              go_loopw [0, 12] (fun u6 i6 wq => ∃ (j : Nat) (b6 : List UInt8), j ≤ 8 ∧ i6 = .int .i64 (j : Int) ∧ wq.ownsRow base 5 1 u6 b6.length (bcs b6) ∧ Cap b6 (x ++ (a ++ (bytesOf 8 f).take j)) ∧ Grew w wq v u6 ∧ base ≤ wq.heap.size) (fun _ i6 _ => 8 - (intOf i6).toNat)
              case atStart => exact ⟨0, b', by omega, rfl, HO3.out, by simpa using HCP.out, HG.out.trans HG3.out, by have h1 := HBR.out; have h2 := HG3.out.g.size; omega⟩
              case round =>
                obtain ⟨j, b6, hj, rfl, ho6, hc6, hg6, hb6⟩ := hrel
                have HO6 := Lib.hid ho6
                have HC6 := Lib.hid hc6
                have HG6 := Lib.hid hg6
                have HB6 := Lib.hid hb6
                clear ho6 hc6 hg6 hb6
                by_cases hj8 : j < 8
                · have hjj : (j : Int) < 8 := by omega
                  have ob0 := one_byte (UInt8.ofNat (f / 2 ^ (56 - 8 * j) % 256)) _ (byte_shift f j) wr
                  have HTK := Lib.hid (bytes8_take f j hj8)
                  generalize UInt8.ofNat (f / 2 ^ (56 - 8 * j) % 256) = cj at *
                  go_wp2_with fail
                  refine (add_any base _ b6.length b6 _ _ _ rfl (HO6.out.alloc _) HC6.out (by have h1 := HB6.out; simp; omega) (by show (1 : Nat) ≤ _; omega)).mono ?_
                  rintro e w7 ⟨v7, b7, rfl, ho7, hc7, hg7⟩
                  have HO7 := Lib.hid ho7
                  have HC7 := Lib.hid hc7
                  have HG7 : Hid (Grew w w7 v v7) := Lib.hid ((HG6.out.trans (Grew.alloc _ _ _)).trans hg7)
                  have HB7 : Hid (base ≤ w7.heap.size) := Lib.hid (by have h1 := HB6.out; have h2 := hg7.g.size; simp at h2; omega)
                  clear ho7 hc7 hg7
                  go_wp2_with fail
                  go_roundw
                  case rel => exact ⟨j + 1, b7, by omega, by first | go_num | simp, HO7.out, by rw [HTK.out]; simpa [List.append_assoc] using HC7.out, HG7.out, HB7.out⟩
                  case measure => simp [intOf]; omega
                · obtain rfl : j = 8 := by omega
                  go_wp2_with fail
                  go_roundw
                  case rel => exact ⟨k + 1, a ++ bytesOf 8 f, b6, by omega, by first | go_num | simp, HYes.out, HO6.out, by have h1 := HC6.out; rwa [List.take_of_length_le (by rw [bytesOf_length]; omega)] at h1, HG6.out⟩
                  case measure => simp [intOf]; omega)
        | b =>
          simp only [It.code] at hcc
          have h2cc := (HC2.out _).trans hcc
          cases hz : zeroV 98 u i f bb s rn with
          | false =>
            have HZ := Lib.hid hz
            have HNo : Hid (encAll its fs = none) := Lib.hid (encAll_bad hlt hlf (by rw [HGI.out, HGF.out]; have hl := HR.out.len; subst hl; have hS := HS.out; subst hS; rw [zV_b] at hz; simp only [encOne, hz]; rfl))
            clear hz
            go_wp2_with fail
            rw [← hw2]
            clear hw2
            go_still_tail 6, (by kernel_rfl)
            change wpList _ _ _ _ _ w2.drew
            generalize hwd : w2.drew = wd
            have hlk : Like w2 wd := by rw [← hwd]; exact ⟨rfl, rfl, rfl, rfl⟩
            clear hwd
            go_wp2_with fail
            refine (zero_b _ _ _ _ _ _ _ _ _).mono ?_
            rintro e w3 ⟨rfl, hb3⟩
            rw [HZ.out]
            replace hb3 : Below w2.heap.size w2 w3 := by have h := hlk.below hb3; rwa [hlk.heap] at h
            clear hlk
            all_goals (
              go_wp2_with fail
              refine bodyPost_ret (v := .tuple #[u0, .bool false]) (by simp [results, Tryz.results42, go_sem]) rfl ?_
              exact put_none HNo.out (HBW.out.trans ((HB2.out.mono (by omega)).trans (hb3.mono (by have h1 := H2S.out; omega)))))
          | true =>
            have HZ := Lib.hid hz
            have HYes : Hid (encAll (its.take (k + 1)) (fs.take (k + 1)) = some (a ++ [if bb then 1 else 0])) := Lib.hid (by
              have hl := HR.out.len; subst hl; have hS := HS.out; subst hS; rw [zV_b] at hz
              rw [encAll_snoc hlt hlf, HE.out, HGI.out, HGF.out]; simp only [encOne, hz]; rfl)
            clear hz
            go_wp2_with fail
            rw [← hw2]
            clear hw2
            go_still_tail 6, (by kernel_rfl)
            change wpList _ _ _ _ _ w2.drew
            generalize hwd : w2.drew = wd
            have hlk : Like w2 wd := by rw [← hwd]; exact ⟨rfl, rfl, rfl, rfl⟩
            clear hwd
            go_wp2_with fail
            refine (zero_b _ _ _ _ _ _ _ _ _).mono ?_
            rintro e w3 ⟨rfl, hb3⟩
            rw [HZ.out]
            replace hb3 : Below w2.heap.size w2 w3 := by have h := hlk.below hb3; rwa [hlk.heap] at h
            clear hlk
            all_goals (
              have D : ∀ j, w3.cell? ⟨wr.heap.size, j, none⟩ = w2.cell? ⟨wr.heap.size, j, none⟩ := fun j => hb3.cell (p := ⟨wr.heap.size, j, none⟩) (by have h1 := H2S.out; simp; omega)
              have d0 : w3.cell? ⟨wr.heap.size, 0, none⟩ = some (.int .u64 (u : Int)) := (D 0).trans p0
              have d1 : w3.cell? ⟨wr.heap.size, 1, none⟩ = some (.int .i64 i) := (D 1).trans p1
              have d2 : w3.cell? ⟨wr.heap.size, 2, none⟩ = some (.float .f64 f) := (D 2).trans p2
              have d3 : w3.cell? ⟨wr.heap.size, 3, none⟩ = some (.bool bb) := (D 3).trans p3
              have d4 : w3.cell? ⟨wr.heap.size, 4, none⟩ = some (.string s) := (D 4).trans p4
              have d5 : w3.cell? ⟨wr.heap.size, 5, none⟩ = some (.slice ra rn rc) := (D 5).trans p5
              have C : ∀ o, w3.cell? ⟨ib, o, none⟩ = wr.cell? ⟨ib, o, none⟩ := fun o => (hb3.cell (p := ⟨ib, o, none⟩) (by have h1 := H2S.out; simp; omega)).trans (HC2.out o)
              have hcc3 : w3.cell? ⟨ib, io + k * 2, none⟩ = some (.int .u8 98) := (C _).trans hcc
              have HG3 : Hid (Grew wr w3 u0 u0) := Lib.hid (Grew.of_below u0 (HB2.out.trans (hb3.mono (by have h1 := H2S.out; omega))))
              have HO3 : Hid (w3.ownsRow base 5 1 u0 b'.length (bcs b')) := Lib.hid (own_below (own_below HW.out HB2.out) hb3)
              have h3s : Hid (wr.heap.size < w3.heap.size) := Lib.hid (by have h1 := hb3.size; have h2 := H2S.out; omega)
              clear p0 p1 p2 p3 p4 p5 h2cc
              clear D C
              have HB3 := Lib.hid hb3
              clear hb3
              have ob : Hid (∀ (c : UInt8) (y : Int), y = (c.toNat : Int) → (convert 61 9 (.slice (some ⟨w3.heap.size, 0, none⟩) 1 1)).run Tryz.prog (w3.alloc (.cells #[.int .u8 y] 5)) = .ok (.string ⟨#[c]⟩) (w3.alloc (.cells #[.int .u8 y] 5))) := Lib.hid (fun c y h => one_byte c y h w3)
              cases bb with
              | false =>
                have ob0 := ob.out 0 0 rfl
                go_wp2_with fail
                refine (add_any base u0 b'.length b' (x ++ a) _ _ rfl (HO3.out.alloc _) HCP.out (by have h1 := HG.out.g.size; have h2 := HG3.out.g.size; simp; omega) (by simp [ByteArray.size])).mono ?_
                rintro e w5 ⟨v', b5, rfl, ho5, hc5, hg5⟩
                have HO5 := Lib.hid ho5
                have HC5 := Lib.hid hc5
                have HG5 : Hid (Grew w w5 v v') := Lib.hid (((HG.out.trans HG3.out).trans (Grew.alloc w3 _ u0)).trans hg5)
                clear ho5 hc5 hg5
                go_wp2_with fail
                go_roundw
                case rel => exact ⟨k + 1, a ++ [if false then 1 else 0], b5, by omega, by first | go_num | simp, HYes.out, HO5.out, by have := HC5.out; rwa [List.append_assoc] at this, HG5.out⟩
                case measure => simp [intOf]; omega
              | true =>
                have ob0 := ob.out 1 1 rfl
                go_wp2_with fail
                refine (add_any base u0 b'.length b' (x ++ a) _ _ rfl (HO3.out.alloc _) HCP.out (by have h1 := HG.out.g.size; have h2 := HG3.out.g.size; simp; omega) (by simp [ByteArray.size])).mono ?_
                rintro e w5 ⟨v', b5, rfl, ho5, hc5, hg5⟩
                have HO5 := Lib.hid ho5
                have HC5 := Lib.hid hc5
                have HG5 : Hid (Grew w w5 v v') := Lib.hid (((HG.out.trans HG3.out).trans (Grew.alloc w3 _ u0)).trans hg5)
                clear ho5 hc5 hg5
                go_wp2_with fail
                go_roundw
                case rel => exact ⟨k + 1, a ++ [if true then 1 else 0], b5, by omega, by first | go_num | simp, HYes.out, HO5.out, by have := HC5.out; rwa [List.append_assoc] at this, HG5.out⟩
                case measure => simp [intOf]; omega)
        | t =>
          simp only [It.code] at hcc
          have h2cc := (HC2.out _).trans hcc
          cases hz : zeroV 116 u i f bb s rn with
          | false =>
            have HZ := Lib.hid hz
            have HNo : Hid (encAll its fs = none) := Lib.hid (encAll_bad hlt hlf (by rw [HGI.out, HGF.out]; have hl := HR.out.len; subst hl; have hS := HS.out; subst hS; rw [zV_t] at hz; simp only [encOne, hz]; rfl))
            clear hz
            go_wp2_with fail
            rw [← hw2]
            clear hw2
            go_still_tail 6, (by kernel_rfl)
            change wpList _ _ _ _ _ w2.drew
            generalize hwd : w2.drew = wd
            have hlk : Like w2 wd := by rw [← hwd]; exact ⟨rfl, rfl, rfl, rfl⟩
            clear hwd
            go_wp2_with fail
            refine (zero_t _ _ _ _ _ _ _ _ _).mono ?_
            rintro e w3 ⟨rfl, hb3⟩
            rw [HZ.out]
            replace hb3 : Below w2.heap.size w2 w3 := by have h := hlk.below hb3; rwa [hlk.heap] at h
            clear hlk
            all_goals (
              go_wp2_with fail
              refine bodyPost_ret (v := .tuple #[u0, .bool false]) (by simp [results, Tryz.results42, go_sem]) rfl ?_
              exact put_none HNo.out (HBW.out.trans ((HB2.out.mono (by omega)).trans (hb3.mono (by have h1 := H2S.out; omega)))))
          | true =>
            have HZ := Lib.hid hz
            have HYes : Hid (encAll (its.take (k + 1)) (fs.take (k + 1)) = some (a ++ (vint t.length ++ t))) := Lib.hid (by
              have hl := HR.out.len; subst hl; have hS := HS.out; subst hS; rw [zV_t] at hz
              rw [encAll_snoc hlt hlf, HE.out, HGI.out, HGF.out]; simp only [encOne, hz]; rfl)
            clear hz
            have HSZ : Hid (t.length = s.size) := Lib.hid (by rw [← HS.out, Array.length_toList]; rfl)
            have HSS : Hid (s.size ≤ 140737488351232) := Lib.hid (by rw [← HSZ.out]; exact HTL.out)
            have HU : Hid (s.size < 18446744073709551616) := Lib.hid (by have := HSS.out; omega)
            have hws : IntKind.u64.wrap (s.size : Int) = (s.size : Int) := by rw [Go.IntKind.wrap_u64]; have := HSS.out; omega
            go_wp2_with fail
            rw [← hw2]
            clear hw2
            go_still_tail 6, (by kernel_rfl)
            change wpList _ _ _ _ _ w2.drew
            generalize hwd : w2.drew = wd
            have hlk : Like w2 wd := by rw [← hwd]; exact ⟨rfl, rfl, rfl, rfl⟩
            clear hwd
            go_wp2_with fail
            refine (zero_t _ _ _ _ _ _ _ _ _).mono ?_
            rintro e w3 ⟨rfl, hb3⟩
            rw [HZ.out]
            replace hb3 : Below w2.heap.size w2 w3 := by have h := hlk.below hb3; rwa [hlk.heap] at h
            clear hlk
            all_goals (
              have D : ∀ j, w3.cell? ⟨wr.heap.size, j, none⟩ = w2.cell? ⟨wr.heap.size, j, none⟩ := fun j => hb3.cell (p := ⟨wr.heap.size, j, none⟩) (by have h1 := H2S.out; simp; omega)
              have d0 : w3.cell? ⟨wr.heap.size, 0, none⟩ = some (.int .u64 (u : Int)) := (D 0).trans p0
              have d1 : w3.cell? ⟨wr.heap.size, 1, none⟩ = some (.int .i64 i) := (D 1).trans p1
              have d2 : w3.cell? ⟨wr.heap.size, 2, none⟩ = some (.float .f64 f) := (D 2).trans p2
              have d3 : w3.cell? ⟨wr.heap.size, 3, none⟩ = some (.bool bb) := (D 3).trans p3
              have d4 : w3.cell? ⟨wr.heap.size, 4, none⟩ = some (.string s) := (D 4).trans p4
              have d5 : w3.cell? ⟨wr.heap.size, 5, none⟩ = some (.slice ra rn rc) := (D 5).trans p5
              have C : ∀ o, w3.cell? ⟨ib, o, none⟩ = wr.cell? ⟨ib, o, none⟩ := fun o => (hb3.cell (p := ⟨ib, o, none⟩) (by have h1 := H2S.out; simp; omega)).trans (HC2.out o)
              have hcc3 : w3.cell? ⟨ib, io + k * 2, none⟩ = some (.int .u8 116) := (C _).trans hcc
              have HG3 : Hid (Grew wr w3 u0 u0) := Lib.hid (Grew.of_below u0 (HB2.out.trans (hb3.mono (by have h1 := H2S.out; omega))))
              have HO3 : Hid (w3.ownsRow base 5 1 u0 b'.length (bcs b')) := Lib.hid (own_below (own_below HW.out HB2.out) hb3)
              have h3s : Hid (wr.heap.size < w3.heap.size) := Lib.hid (by have h1 := hb3.size; have h2 := H2S.out; omega)
              clear p0 p1 p2 p3 p4 p5 h2cc
              clear D C
              have HB3 := Lib.hid hb3
              clear hb3
              go_wp2_with fail
              refine (refVarint_any s.size HU.out w3).mono ?_
              rintro e w4 ⟨rfl, hb4⟩
              have HB4 := Lib.hid hb4
              clear hb4
              go_wp2_with fail
              refine (add_any base u0 b'.length b' (x ++ a) _ w4 rfl (own_below HO3.out HB4.out) HCP.out (Nat.le_trans hbase (Nat.le_trans hsz (Nat.le_trans HG3.out.g.size HB4.out.size))) (by rw [mk_size]; have := vint_ten _ HU.out; omega)).mono ?_
              rintro e w5 ⟨v', b5, rfl, ho5, hc5, hg5⟩
              have HO5 := Lib.hid ho5
              have HC5 := Lib.hid hc5
              have HG5 : Hid (Grew w w5 v v') := Lib.hid (((HG.out.trans HG3.out).trans (Grew.of_below u0 HB4.out)).trans hg5)
              clear ho5 hc5
              have d4' : w5.cell? ⟨wr.heap.size, 4, none⟩ = some (.string s) := by
                rw [hg5.cell (by have h1 := h3s.out; have h2 := HB4.out.size; omega) (fun e => by have := (HW.out.lt _ e).2; omega)]
                exact (HB4.out.cell (p := ⟨wr.heap.size, 4, none⟩) h3s.out).trans d4
              have hs5 := hg5.g.size
              have h5s : Hid (base ≤ w5.heap.size) := Lib.hid (by have h1 := h3s.out; have h2 := HB4.out.size; omega)
              clear hg5
              go_wp2_with fail
              refine (add_any base v' b5.length b5 _ s w5 rfl HO5.out HC5.out h5s.out HSS.out).mono ?_
              rintro e w6 ⟨v6, b6, rfl, ho6, hc6, hg6⟩
              have HO6 := Lib.hid ho6
              have HC6 := Lib.hid hc6
              have HG6 : Hid (Grew w w6 v v6) := Lib.hid (HG5.out.trans hg6)
              clear ho6 hc6 hg6
              go_wp2_with fail
              go_roundw
              case rel => exact ⟨k + 1, a ++ (vint t.length ++ t), b6, by omega, by first | go_num | simp, HYes.out, HO6.out, by have h1 := HC6.out; have hS := HS.out; subst hS; rw [HSZ.out]; simpa [List.append_assoc] using h1, HG6.out⟩
              case measure => simp [intOf]; omega)
        | l inner =>
          simp only [It.code] at hcc
          have h2cc := (HC2.out _).trans hcc
          cases hz : zeroV 40 u i f bb s rn with
          | false =>
            have HZ := Lib.hid hz
            have HNo : Hid (encAll its fs = none) := Lib.hid (encAll_bad hlt hlf (by rw [HGI.out, HGF.out]; have hl := HR.out.len; subst hl; have hS := HS.out; subst hS; rw [zV_l] at hz; simp only [encOne, hz]; rfl))
            clear hz
            go_wp2_with fail
            rw [← hw2]
            clear hw2
            go_still_tail 6, (by kernel_rfl)
            change wpList _ _ _ _ _ w2.drew
            generalize hwd : w2.drew = wd
            have hlk : Like w2 wd := by rw [← hwd]; exact ⟨rfl, rfl, rfl, rfl⟩
            clear hwd
            go_wp2_with fail
            refine (zero_l _ _ _ _ _ _ _ _ _).mono ?_
            rintro e w3 ⟨rfl, hb3⟩
            rw [HZ.out]
            replace hb3 : Below w2.heap.size w2 w3 := by have h := hlk.below hb3; rwa [hlk.heap] at h
            clear hlk
            all_goals (
              go_wp2_with fail
              refine bodyPost_ret (v := .tuple #[u0, .bool false]) (by simp [results, Tryz.results42, go_sem]) rfl ?_
              exact put_none HNo.out (HBW.out.trans ((HB2.out.mono (by omega)).trans (hb3.mono (by have h1 := H2S.out; omega)))))
          | true =>
            have HZ := Lib.hid hz
            have HSome : Hid (∀ rs, rows (fun r => encAll inner r) l = some rs → encAll (its.take (k + 1)) (fs.take (k + 1)) = some (a ++ (vint l.length ++ rs))) := Lib.hid (fun rs hrs => by
              have hl := HR.out.len; subst hl; have hS := HS.out; subst hS; rw [zV_l] at hz
              rw [encAll_snoc hlt hlf, HE.out, HGI.out, HGF.out]; simp only [encOne, hz, Fld.L, hrs]; rfl)
            have HNone : Hid (rows (fun r => encAll inner r) l = none → encAll its fs = none) := Lib.hid (fun hrs => encAll_bad hlt hlf (by rw [HGI.out, HGF.out]; have hl := HR.out.len; subst hl; have hS := HS.out; subst hS; rw [zV_l] at hz; simp only [encOne, hz, Fld.L, hrs]; rfl))
            have HIHI : Hid (PutSays inner) := Lib.hid (IH.out inner (by rw [← HGI.out]; exact List.getElem_mem hlt))
            have HSMI : Hid (inner.length ≤ 256 ∧ ∀ y ∈ inner, y.Sm) := Lib.hid (by have h1 := HSM.out _ (List.getElem_mem hlt); rw [HGI.out] at h1; cases h1 with | l h g => exact ⟨h, g⟩)
            have HIN : Hid (∃ (xa : Option Addr) (xc : Nat), wr.cell? ⟨ib, io + k * 2 + 1, none⟩ = some (.slice xa inner.length xc) ∧ ItsIn wr base inner xa inner.length) := Lib.hid (by
              have h1 := HIT.out; simp only [ItIn] at h1; obtain ⟨-, -, xa, xn, xc, h2, h3⟩ := h1
              obtain rfl := h3.len; exact ⟨xa, xc, h2, h3⟩)
            obtain ⟨xa, xc, hxc, hxi⟩ := HIN.out
            have HXI := Lib.hid hxi
            have HRL : Hid (rn = l.length) := Lib.hid HR.out.len
            clear hxi HIN
            clear hz
            have HU : Hid (rn < 18446744073709551616) := Lib.hid (by have h1 : l.length < 2 ^ 63 := HY.out.hn; have h2 := HRL.out; omega)
            go_wp2_with fail
            rw [← hw2]
            clear hw2
            go_still_tail 6, (by kernel_rfl)
            change wpList _ _ _ _ _ w2.drew
            generalize hwd : w2.drew = wd
            have hlk : Like w2 wd := by rw [← hwd]; exact ⟨rfl, rfl, rfl, rfl⟩
            clear hwd
            go_wp2_with fail
            refine (zero_l _ _ _ _ _ _ _ _ _).mono ?_
            rintro e w3 ⟨rfl, hb3⟩
            rw [HZ.out]
            replace hb3 : Below w2.heap.size w2 w3 := by have h := hlk.below hb3; rwa [hlk.heap] at h
            clear hlk
            all_goals (
              have D : ∀ j, w3.cell? ⟨wr.heap.size, j, none⟩ = w2.cell? ⟨wr.heap.size, j, none⟩ := fun j => hb3.cell (p := ⟨wr.heap.size, j, none⟩) (by have h1 := H2S.out; simp; omega)
              have d0 : w3.cell? ⟨wr.heap.size, 0, none⟩ = some (.int .u64 (u : Int)) := (D 0).trans p0
              have d1 : w3.cell? ⟨wr.heap.size, 1, none⟩ = some (.int .i64 i) := (D 1).trans p1
              have d2 : w3.cell? ⟨wr.heap.size, 2, none⟩ = some (.float .f64 f) := (D 2).trans p2
              have d3 : w3.cell? ⟨wr.heap.size, 3, none⟩ = some (.bool bb) := (D 3).trans p3
              have d4 : w3.cell? ⟨wr.heap.size, 4, none⟩ = some (.string s) := (D 4).trans p4
              have d5 : w3.cell? ⟨wr.heap.size, 5, none⟩ = some (.slice ra rn rc) := (D 5).trans p5
              have C : ∀ o, w3.cell? ⟨ib, o, none⟩ = wr.cell? ⟨ib, o, none⟩ := fun o => (hb3.cell (p := ⟨ib, o, none⟩) (by have h1 := H2S.out; simp; omega)).trans (HC2.out o)
              have hcc3 : w3.cell? ⟨ib, io + k * 2, none⟩ = some (.int .u8 40) := (C _).trans hcc
              have HG3 : Hid (Grew wr w3 u0 u0) := Lib.hid (Grew.of_below u0 (HB2.out.trans (hb3.mono (by have h1 := H2S.out; omega))))
              have HO3 : Hid (w3.ownsRow base 5 1 u0 b'.length (bcs b')) := Lib.hid (own_below (own_below HW.out HB2.out) hb3)
              have h3s : Hid (wr.heap.size < w3.heap.size) := Lib.hid (by have h1 := hb3.size; have h2 := H2S.out; omega)
              clear p0 p1 p2 p3 p4 p5 h2cc
              clear D C
              have HB3 := Lib.hid hb3
              clear hb3
              have hws : IntKind.u64.wrap (rn : Int) = (rn : Int) := by rw [Go.IntKind.wrap_u64]; have h1 := HU.out; omega
              have HXC : Hid (wr.cell? ⟨ib, io + k * 2 + 1, none⟩ = some (.slice xa inner.length xc)) := Lib.hid hxc
              clear hxc
              go_wp2_with fail
              refine (refVarint_any rn HU.out w3).mono ?_
              rintro e w4 ⟨rfl, hb4⟩
              have HB4 := Lib.hid hb4
              clear hb4
              go_wp2_with fail
              refine (add_any base u0 b'.length b' (x ++ a) _ w4 rfl (own_below HO3.out HB4.out) HCP.out (Nat.le_trans hbase (Nat.le_trans hsz (Nat.le_trans HG3.out.g.size HB4.out.size))) (by rw [mk_size]; have := vint_ten _ HU.out; omega)).mono ?_
              rintro e w5 ⟨v', b5, rfl, ho5, hc5, hg5⟩
              have HO5 := Lib.hid ho5
              have HC5 := Lib.hid hc5
              have HG5 : Hid (Grew wr w5 u0 v') := Lib.hid ((HG3.out.trans (Grew.of_below u0 HB4.out)).trans hg5)
              have hfne : u0.ownBlock ≠ some wr.heap.size := fun e => by have := (HW.out.lt _ e).2; omega
              have d5' : w5.cell? ⟨wr.heap.size, 5, none⟩ = some (.slice ra rn rc) := by
                rw [hg5.cell (by have h1 := h3s.out; have h2 := HB4.out.size; omega) hfne]
                exact (HB4.out.cell (p := ⟨wr.heap.size, 5, none⟩) h3s.out).trans d5
              have hv5 : v'.ownBlock ≠ some wr.heap.size := hg5.other (by have h1 := h3s.out; have h2 := HB4.out.size; omega) hfne
              have h5s : wr.heap.size < w5.heap.size := by have h1 := h3s.out; have h2 := HB4.out.size; have h3 := hg5.g.size; omega
              have HSTART : Hid (w5.cell? ⟨wr.heap.size, 5, none⟩ = some (.slice ra rn rc) ∧ wr.heap.size < w5.heap.size ∧ v'.ownBlock ≠ some wr.heap.size ∧ Grew wr w5 u0 v') := Lib.hid ⟨d5', h5s, hv5, HG5.out⟩
              have HBR : Hid (base ≤ wr.heap.size) := Lib.hid (by have h1 := HG.out.g.size; omega)
              clear ho5 hc5 hg5 hfne hv5 h5s
              obtain ⟨wo, hwo⟩ : ∃ wo : World, wo = wr := ⟨_, rfl⟩
              go_wp2_with fail
              go_loopw [0, 14] (fun u6 i6 wq => ∃ (j : Nat) (b6 rs : List UInt8), j ≤ l.length ∧ i6 = .int .i64 (j : Int) ∧ rows (fun r => encAll inner r) (l.take j) = some rs ∧ wq.ownsRow base 5 1 u6 b6.length (bcs b6) ∧ Cap b6 (x ++ a ++ (vint rn ++ rs)) ∧ (wq.cell? ⟨wo.heap.size, 5, none⟩ = some (.slice ra rn rc) ∧ wo.heap.size < wq.heap.size ∧ u6.ownBlock ≠ some wo.heap.size ∧ Grew wo wq u0 u6)) (fun _ i6 _ => l.length - (intOf i6).toNat)
              case atStart => exact ⟨0, b5, [], by omega, rfl, by simp [rows], HO5.out, by simpa using HC5.out, by rw [hwo]; exact HSTART.out⟩
              case round =>
                subst hwo
                obtain ⟨j, b6, rs, hj, rfl, hrs, ho6, hc6, h6c, h6s, h6o, hg6⟩ := hrel
                have HRS := Lib.hid hrs
                have HO6 := Lib.hid ho6
                have HC6 := Lib.hid hc6
                have HG6 := Lib.hid hg6
                have h6o' := Lib.hid h6o
                have h6s' := Lib.hid h6s
                clear hrs ho6 hc6 hg6 h6o h6s
                have HB6 : Hid (base ≤ wr.heap.size) := Lib.hid (by have h1 := HBR.out; have h2 := h6s'.out; omega)
                have HBel : Hid (Below base wo wr) := Lib.hid (HG6.out.below HBR.out (fun k hk => (HW.out.lt k hk).1))
                by_cases hjl : j < l.length
                · have HRN := (RowsIn.kept (B := base) (fun q hq => HBel.out.block q hq) _ _ _ HR.out).at j hjl
                  obtain ⟨rb, ro, rfl, hrb, sa, sn, sc, hrc, hfl6⟩ := HRN
                  have hxc6 : wr.cell? ⟨ib, io + k * 2 + 1, none⟩ = some (.slice xa inner.length xc) := (HBel.out.cell (p := ⟨ib, io + k * 2 + 1, none⟩) hib).trans HXC.out
                  have hjj : 0 ≤ (j : Int) ∧ (j : Int) < (rn : Int) := by have h1 := HRL.out; omega
                  have hjk := hjj.2
                  have hib6 : ib < wr.heap.size := by have h1 := HB6.out; omega
                  have hrb6 : rb < wr.heap.size := by have h1 := HB6.out; omega
                  have HP : ∀ W, Like wr W → _ := fun W hW => HIHI.out base u0 b6 _ xa xc l[j] sa sn sc W (hW.own HO6.out) HC6.out (by rw [hW.heap]; exact HB6.out) (ItsIn.kept (B := base) (fun q hq => by rw [hW.heap]; exact HBel.out.block q hq) _ _ _ HXI.out) (FldsIn.kept (B := base) (fun q hq => by rw [hW.heap]) _ _ _ hfl6) (HY.out.hl _ (List.getElem_mem hjl)) (HYF.out.l _ (List.getElem_mem hjl)) HSMI.out.1 HSMI.out.2
                  cases he : encAll inner l[j] with
                  | none =>
                    have HPn : Hid (∀ W, Like wr W → Calls Tryz.prog 42 #[u0, .slice xa inner.length xc, .slice sa sn sc] W fun e w' => ∃ v' : Value, e = .returned (.tuple #[v', .bool false]) ∧ Below base wr w') := Lib.hid (fun W hW => (HP W hW).mono (fun e w' h => by unfold PutEnds at h; rw [he] at h; obtain ⟨v1, h1, h2⟩ := h; exact ⟨v1, h1, hW.below h2⟩))
                    have HNo : Hid (encAll its fs = none) := Lib.hid (HNone.out (rows_bad hjl he))
                    clear HP he hfl6
                    go_wp2_with fail
                    go_region_with (go_at_call 42; refine (HPn.out _ (by exact ⟨rfl, rfl, rfl, rfl⟩)).mono ?_; rintro e w7 ⟨v7, rfl, hb7⟩)
                    all_goals (
                      have HB7 := Lib.hid hb7
                      clear hb7
                      go_wp2_with fail
                      refine bodyPost_ret (v := .tuple #[u0, .bool false]) (by simp [results, Tryz.results42, go_sem]) rfl ?_
                      refine put_none HNo.out ?_
                      have hz1 := (HBW.out.trans HBel.out)
                      first | exact hz1.trans HB7.out | exact (hz1.trans HB7.out).drew | exact hz1.drew.trans HB7.out | exact below_drewN (hz1.trans HB7.out) _)
                  | some a2 =>
                    have HPs : Hid (∀ W, Like wr W → Calls Tryz.prog 42 #[u0, .slice xa inner.length xc, .slice sa sn sc] W fun e w' => ∃ (v' : Value) (b' : List UInt8), e = .returned (.tuple #[v', .bool true]) ∧ w'.ownsRow base 5 1 v' b'.length (bcs b') ∧ Cap b' (x ++ a ++ (vint rn ++ rs) ++ a2) ∧ Grew wr w' u0 v') := Lib.hid (fun W hW => (HP W hW).mono (fun e w' h => by unfold PutEnds at h; rw [he] at h; obtain ⟨v1, c1, h1, h2, h3, h4⟩ := h; exact ⟨v1, c1, h1, h2, h3, hW.grew h4⟩))
                    have HRS2 : Hid (rows (fun r => encAll inner r) (l.take (j + 1)) = some (rs ++ a2)) := Lib.hid (by rw [rows_snoc hjl, HRS.out, he])
                    clear HP he hfl6
                    go_wp2_with fail
                    go_region_with (go_at_call 42; refine (HPs.out _ (by exact ⟨rfl, rfl, rfl, rfl⟩)).mono ?_; rintro e w7 ⟨v7, b7, rfl, ho7, hc7, hg7⟩)
                    all_goals (
                      have HO7 := Lib.hid ho7
                      have HC7 := Lib.hid hc7
                      have HG7 := Lib.hid hg7
                      clear ho7 hc7 hg7
                      have hcA : w7.cell? ⟨wo.heap.size, 5, none⟩ = some (.slice (some ⟨rb, ro, none⟩) rn rc) := (HG7.out.cell h6s'.out h6o'.out 5).trans h6c
                      have hcB : Hid (wo.heap.size < w7.heap.size) := Lib.hid (by have h1 := h6s'.out; have h2 := HG7.out.g.size; omega)
                      have hcC : Hid (v7.ownBlock ≠ some wo.heap.size) := Lib.hid (HG7.out.other h6s'.out h6o'.out)
                      have h63 : (l.length : Int) < 9223372036854775808 := by have h1 : l.length < 2 ^ 63 := HY.out.hn; omega
                      have HC8 : Hid (Cap b7 (x ++ a ++ (vint rn ++ (rs ++ a2)))) := Lib.hid (by have h1 := HC7.out; simpa [List.append_assoc] using h1)
                      go_wp2_with fail
                      go_roundw
                      case rel => exact ⟨j + 1, b7, rs ++ a2, by omega, by first | go_num | simp, HRS2.out, HO7.out, HC8.out, hcA, hcB.out, hcC.out, HG6.out.trans HG7.out⟩
                      case measure => simp [intOf]; omega)
                · obtain rfl : j = l.length := by omega
                  have hjn : ¬ ((l.length : Int) < (rn : Int)) := by have h1 := HRL.out; omega
                  have HALL : Hid (rows (fun r => encAll inner r) l = some rs) := Lib.hid (by have h1 := HRS.out; rwa [List.take_length] at h1)
                  have HC8 : Hid (Cap b6 (x ++ (a ++ (vint l.length ++ rs)))) := Lib.hid (by have h1 := HC6.out; rw [HRL.out] at h1; simpa [List.append_assoc] using h1)
                  go_wp2_with fail
                  go_roundw
                  case rel => exact ⟨k + 1, a ++ (vint l.length ++ rs), b6, by omega, by first | go_num | simp, HSome.out rs HALL.out, HO6.out, HC8.out, HG.out.trans HG6.out⟩
                  case measure => simp [intOf]; omega)
      · obtain rfl : k = its.length := by omega
        have HALL : Hid (encAll its fs = some a) := Lib.hid (by have h1 := HE.out; rwa [List.take_length, List.take_of_length_le (by omega)] at h1)
        have hlt' : ¬ ((its.length : Int) < (its.length : Int)) := by omega
        go_wp2_with fail
        refine bodyPost_ret (v := .tuple #[u0, .bool true]) (by simp [results, Tryz.results42, go_sem]) rfl ?_
        exact put_some HALL.out HW.out HCP.out HG.out
  · have HNo : Hid (encAll its fs = none) := Lib.hid (by
      cases h : encAll its fs with
      | none => rfl
      | some a => exact absurd (encAll_len h).symm hlen)
    have ht : ((fn : Int) != (its.length : Int)) = true := by simp; omega
    go_enter Tryz.func42, Tryz.ntmps42
    go_wp2_with fail
    refine bodyPost_ret (v := .tuple #[v, .bool false]) (by simp [results, Tryz.results42, go_sem]) rfl ?_
    exact put_none HNo.out (Below.refl _ _)
end Go.Proofs.YtidfgjgbigedeaaGreatDoor
