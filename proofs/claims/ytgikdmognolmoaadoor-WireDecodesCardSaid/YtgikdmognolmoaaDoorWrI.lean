/- The reference's Same. -/
import Derived.Test.YtgikdmognolmoaaDoorWrB
import Derived.Test.YtgikdmognolmoaaDoorWqAll
import Derived.StillTailTactics
namespace Go.Proofs.YtgikdmognolmoaaDoor
open Go.RowKit Go.Lib Go.Wq
set_option linter.unusedVariables false
set_option linter.unusedSimpArgs false
set_option maxRecDepth 100000

theorem w_storeS (a : Addr) (n : Nat) (m : Mode) (w : World) : (store a (.float .f64 n) m).run Tryd.prog w = stored Tryd.prog w a (.float .f64 n) m := run_store Tryd.prog w a _ m rfl
theorem bne_bool {a b : Bool} (h : a ≠ b) : (a != b) = true := by cases a <;> cases b <;> first | rfl | exact absurd rfl h
theorem bne_i {a b : Int} (h : a ≠ b) : (a != b) = true := by simp [h]
theorem bne_n {a b : Nat} (h : a ≠ b) : (a != b) = true := by simp [h]
theorem bne_c {a b : Nat} (h : a ≠ b) : ((a : Int) != (b : Int)) = true := by simp; omega
theorem beq_c {a b : Nat} (h : a = b) : ((a : Int) != (b : Int)) = false := by subst h; simp
theorem beq_n {a b : Nat} (h : a = b) : (a != b) = false := by subst h; simp
theorem bne_s {s t : ByteArray} (h : (s == t) = false) : (s != t) = true := by simp [bne, h]
theorem beq_s {s t : ByteArray} (h : (s == t) = true) : (s != t) = false := by simp [bne, h]
theorem bne_bytes (s t : ByteArray) (h : s ≠ t) : (s == t) = false := by
  first
  | exact beq_eq_false_iff_ne.2 h
  | (cases s; cases t; rename_i a b; show (a == b) = false; exact beq_eq_false_iff_ne.2 (fun e => h (by rw [e])))
theorem drawn_below {B : Nat} {a w W : World} (h : Below B a w) (hl : Like w W) : Below B a W := h.trans ⟨hl.os, hl.tape, hl.output, by rw [hl.heap]; exact Nat.le_refl _, fun _ _ => by rw [hl.heap]⟩
def SameEnds (fs gs : List Fld) (w : World) (e : Ending) (w' : World) : Prop := (∃ r : Bool, e = .returned (.bool r) ∧ (r = true ↔ fs = gs)) ∧ Below w.heap.size w w'
def SameSays (fs : List Fld) : Prop := ∀ (gs : List Fld) (B : Nat) (fa : Option Addr) (fc : Nat) (ga : Option Addr) (gc : Nat) (w : World), FldsIn w B fs fa fs.length → FldsIn w B gs ga gs.length → B ≤ w.heap.size →
  fs.length < 4611686018427387904 → gs.length < 4611686018427387904 → (∀ y ∈ fs, y.Len) → (∀ y ∈ gs, y.Len) →
  Calls Tryd.prog 10 #[.slice fa fs.length fc, .slice ga gs.length gc] w fun e w' => SameEnds fs gs w e w'
theorem same_no {fs gs : List Fld} {w w' : World} (h : fs ≠ gs) (hb : Below w.heap.size w w') : SameEnds fs gs w (.returned (.bool false)) w' := ⟨⟨false, rfl, by simp [h]⟩, hb⟩

set_option maxHeartbeats 4000000 in
theorem same_any (fs : List Fld) (IH : ∀ x ∈ fs, ∀ r ∈ x.L, SameSays r) : SameSays fs := by
  intro gs B fa fc ga gc w hfs hgs hB hn1 hn2 hl1 hl2
  have HF := Lib.hid hfs
  have HG := Lib.hid hgs
  have HL1 := Lib.hid hl1
  have HL2 := Lib.hid hl2
  have IH := Lib.hid IH
  have hwb := w_bits
  have hst := w_storeS
  clear hfs hgs hl1 hl2
  by_cases hlen : fs.length = gs.length
  · have HLEN := Lib.hid hlen
    have hne : ((fs.length : Int) != (gs.length : Int)) = false := by simp; omega
    have hne2 : (fs.length != gs.length) = false := by simp; omega
    clear hlen
    go_enter Tryd.func10, Tryd.ntmps10
    go_wp2_with fail
    go_loopw [5] (fun i wr => ∃ (k : Nat), k ≤ fs.length ∧ i = .int .i64 (k : Int) ∧ fs.take k = gs.take k ∧ Below w.heap.size w wr) (fun i _ => fs.length - (intOf i).toNat)
    case atStart => exact ⟨0, Nat.zero_le _, rfl, rfl, Below.refl _ _⟩
    case round =>
      obtain ⟨k, hk, rfl, htk, hbel⟩ := hrel
      have HT := Lib.hid htk
      have HBW := Lib.hid hbel
      have hsz := hbel.size
      by_cases hlt : k < fs.length
      · have hlt2 : k < gs.length := by have := HLEN.out; omega
        obtain ⟨fb, fo, rfl, hfl⟩ := (FldsIn.kept (B := B) (fun j hj => hbel.block j (by omega)) _ _ _ HF.out).at k hlt
        obtain ⟨gb, go, rfl, hgl⟩ := (FldsIn.kept (B := B) (fun j hj => hbel.block j (by omega)) _ _ _ HG.out).at k hlt2
        have HNO : Hid (fs[k] ≠ gs[k] → fs ≠ gs) := Lib.hid (fun h e => h (by subst e; rfl))
        have HYES : Hid (fs[k] = gs[k] → fs.take (k + 1) = gs.take (k + 1)) := Lib.hid (fun h => by rw [List.take_succ_eq_append_getElem hlt, List.take_succ_eq_append_getElem hlt2, HT.out, h])
        have HIK := Lib.hid (IH.out _ (List.getElem_mem hlt))
        have HLK1 := Lib.hid (HL1.out _ (List.getElem_mem hlt))
        have HLK2 := Lib.hid (HL2.out _ (List.getElem_mem hlt2))
        generalize fs[k] = x at *
        generalize gs[k] = y at *
        obtain ⟨u, i, f, bb, t, l⟩ := x
        obtain ⟨u', i', f', bb', t', l'⟩ := y
        simp only [FldIn] at hfl hgl
        obtain ⟨hfb, c0, c1, c2, c3, ⟨s, rfl, c4⟩, ra, rn, rc, c5, hrows⟩ := hfl
        obtain ⟨hgb, e0, e1, e2, e3, ⟨s', rfl, e4⟩, ra', rn', rc', e5, hrows'⟩ := hgl
        obtain rfl := hrows.len
        obtain rfl := hrows'.len
        have HR := Lib.hid hrows
        have HR' := Lib.hid hrows'
        have hfb2 : fb < wr.heap.size := by omega
        have hgb2 : gb < wr.heap.size := by omega
        clear htk hbel hrows hrows'
        have hix : 0 ≤ (k : Int) ∧ (k : Int) < (fs.length : Int) := by omega
        have hix2 : 0 ≤ (k : Int) ∧ (k : Int) < (gs.length : Int) := by omega
        have hixk := hix.2
        have hixm := hix2.2
        have hkb : (k : Int) < 4611686018427387904 := by omega
        have HB2 : Hid (∀ o1 o2, Below w.heap.size w ((wr.alloc o1).alloc o2)) := Lib.hid (fun o1 o2 => (HBW.out.alloc hsz _).alloc (by simp; omega) _)
        by_cases q0 : u = u'
        · subst q0
          by_cases q1 : i = i'
          · subst q1
            by_cases q2 : f = f'
            · subst q2
              by_cases q3 : bb = bb'
              · subst q3
                by_cases q4 : s = s'
                · subst q4
                  by_cases q5 : l.length = l'.length
                  · have d5 : ((l.length : Int) != (l'.length : Int)) = false := beq_c q5
                    have d5' : (l.length != l'.length) = false := beq_n q5
                    have HQ5 := Lib.hid q5
                    clear q5
                    obtain ⟨w2, hw2⟩ : ∃ w2, w2 = (wr.alloc (.cells #[.int .u64 (u : Int), .int .i64 i, .float .f64 f, .bool bb, .string s, .slice ra l.length rc] 53)).alloc (.cells #[.int .u64 (u : Int), .int .i64 i, .float .f64 f, .bool bb, .string s, .slice ra' l'.length rc'] 53) := ⟨_, rfl⟩
                    have HW2 := Lib.hid hw2
                    have HP5 : Hid (w2.cell? ⟨wr.heap.size, 5, none⟩ = some (.slice ra l.length rc)) := Lib.hid (by rw [hw2]; simp [go_sem])
                    have HR5 : Hid (w2.cell? ⟨wr.heap.size + 1, 5, none⟩ = some (.slice ra' l'.length rc')) := Lib.hid (by rw [hw2]; simp [go_sem])
                    have HBZ : Hid (Below w.heap.size w w2) := Lib.hid (by rw [hw2]; exact HB2.out _ _)
                    have H2S : Hid (w2.heap.size = wr.heap.size + 2) := Lib.hid (by rw [hw2]; simp)
                    clear hw2
                    go_wp2_with fail
                    go_quiet (fail)
                    obtain ⟨wo, hwo⟩ : ∃ wo : World, wo = wr := ⟨_, rfl⟩
                    subst hwo
                    go_wp2_with fail
                    go_loopw [8] (fun i wq => ∃ (q : Nat), q ≤ l.length ∧ i = .int .i64 (q : Int) ∧ l.take q = l'.take q ∧ Below w2.heap.size w2 wq) (fun i _ => l.length - (intOf i).toNat)
                    case atStart => exact ⟨0, Nat.zero_le _, rfl, rfl, by rw [HW2.out]; exact drawn_below (Below.refl _ _) (by exact ⟨rfl, rfl, rfl, rfl⟩)⟩
                    case round =>
                      obtain ⟨q, hq, rfl, htq, hbq⟩ := hrel
                      have HTQ := Lib.hid htq
                      have HBQ := Lib.hid hbq
                      have hsq := hbq.size
                      have h2s := H2S.out
                      have hwz := HBZ.out.size
                      have z1 : wr.cell? ⟨wo.heap.size, 5, none⟩ = some (.slice ra l.length rc) := (hbq.cell (p := ⟨wo.heap.size, 5, none⟩) (by simp; omega)).trans HP5.out
                      have z2 : wr.cell? ⟨wo.heap.size + 1, 5, none⟩ = some (.slice ra' l'.length rc') := (hbq.cell (p := ⟨wo.heap.size + 1, 5, none⟩) (by simp; omega)).trans HR5.out
                      have HKW : Hid (∀ j, j < B → wr.heap[j]? = wo.heap[j]?) := Lib.hid (fun j hj => by rw [hbq.block j (by omega), HBZ.out.block j (by omega), HBW.out.block j (by omega)])
                      clear htq hbq
                      by_cases hql : q < l.length
                      · have hql2 : q < l'.length := by have := HQ5.out; omega
                        obtain ⟨rb, ro, rfl, hrb, sa, sn, sc, hrc, hfl6⟩ := (RowsIn.kept (B := B) HKW.out _ _ _ HR.out).at q hql
                        obtain ⟨rb', ro', rfl, hrb', sa', sn', sc', hrc', hfl6'⟩ := (RowsIn.kept (B := B) HKW.out _ _ _ HR'.out).at q hql2
                        obtain rfl := hfl6.len
                        obtain rfl := hfl6'.len
                        have hqi : 0 ≤ (q : Int) ∧ (q : Int) < (l.length : Int) := by omega
                        have hqi' : 0 ≤ (q : Int) ∧ (q : Int) < (l'.length : Int) := by omega
                        have hqj := hqi.2
                        have hqb : (q : Int) < 4611686018427387904 := by have h1 := HLK1.out.n; simp only [Fld.L] at h1; omega
                        have HC : Hid (∀ W, Like wr W → Calls Tryd.prog 10 #[.slice sa l[q].length sc, .slice sa' l'[q].length sc'] W fun e w' => (∃ r : Bool, e = .returned (.bool r) ∧ (r = true ↔ l[q] = l'[q])) ∧ Below wr.heap.size wr w') := Lib.hid (fun W hW =>
                          (HIK.out l[q] (List.getElem_mem hql) l'[q] B sa sc sa' sc' W (FldsIn.kept (B := B) (fun j hj => by rw [hW.heap]) _ _ _ hfl6) (FldsIn.kept (B := B) (fun j hj => by rw [hW.heap]) _ _ _ hfl6') (by rw [hW.heap]; omega) (HLK1.out.r _ (List.getElem_mem hql)) (HLK2.out.r _ (List.getElem_mem hql2)) (HLK1.out.l _ (List.getElem_mem hql)) (HLK2.out.l _ (List.getElem_mem hql2))).mono (fun e w' h => ⟨h.1, by have h2 := hW.below h.2; rwa [hW.heap] at h2⟩))
                        have HNO2 : Hid (l[q] ≠ l'[q] → fs ≠ gs) := Lib.hid (fun h => HNO.out (fun e => by injection e with _ _ _ _ _ e; subst e; exact h rfl))
                        have HYES2 : Hid (l[q] = l'[q] → l.take (q + 1) = l'.take (q + 1)) := Lib.hid (fun h => by rw [List.take_succ_eq_append_getElem hql, List.take_succ_eq_append_getElem hql2, HTQ.out, h])
                        generalize l[q] = row at *
                        generalize l'[q] = row' at *
                        clear hfl6 hfl6'
                        go_wp2_with fail
                        go_still_tail 10, (by kernel_rfl)
                        change wpList _ _ _ _ _ wr.drew
                        generalize hwd : wr.drew = wd
                        have hlk : Like wr wd := by rw [← hwd]; exact ⟨rfl, rfl, rfl, rfl⟩
                        clear hwd
                        go_wp2_with fail
                        refine (HC.out _ hlk).mono ?_
                        rintro e w5 ⟨⟨r, rfl, hr⟩, hb5⟩
                        have HBF := Lib.hid (HBQ.out.trans (hb5.mono hsq))
                        have HRR := Lib.hid hr
                        clear hb5 hlk hr
                        cases r with
                        | true =>
                          go_wp2_with fail
                          refine ⟨⟨q + 1, by omega, by simp, HYES2.out (by simpa using HRR.out), HBF.out⟩, ?_⟩
                          simp [intOf]; omega
                        | false =>
                          have HNE : Hid (fs ≠ gs) := Lib.hid (HNO2.out (by simpa using HRR.out))
                          go_wp2_with fail
                          go_ret
                          exact same_no HNE.out (HBZ.out.trans (HBF.out.mono (by omega)))
                      · obtain rfl : q = l.length := by omega
                        have hqn : ¬ ((l.length : Int) < (l.length : Int)) := by omega
                        have HALL : Hid (fs.take (k + 1) = gs.take (k + 1)) := Lib.hid (HYES.out (by have h := HTQ.out; rw [List.take_length, HQ5.out, List.take_length] at h; rw [h]))
                        have HBF := Lib.hid (HBZ.out.trans (HBQ.out.mono (by omega)))
                        go_wp2_with fail
                        refine ⟨⟨k + 1, by omega, by simp, HALL.out, HBF.out⟩, ?_⟩
                        simp [intOf]; omega
                  · have d5 : ((l.length : Int) != (l'.length : Int)) = true := bne_c q5
                    have d5' : (l.length != l'.length) = true := bne_n q5
                    have HNE : Hid (fs ≠ gs) := Lib.hid (HNO.out (fun h => q5 (by injection h with _ _ _ _ _ h; rw [h])))
                    go_wp2_with fail
                    go_quiet (fail)
                    go_wp2_with fail
                    go_ret
                    exact same_no HNE.out (drawn_below (HB2.out _ _) (by exact ⟨rfl, rfl, rfl, rfl⟩))
                · have d4 : (s.toList == s'.toList) = false := toList_ne q4
                  have HNE : Hid (fs ≠ gs) := Lib.hid (HNO.out (fun h => q4 (by injection h with _ _ _ _ h _; exact ByteArray.ext (Array.toList_inj.1 h))))
                  go_wp2_with fail
                  go_quiet (fail)
                  go_wp2_with fail
                  go_ret
                  exact same_no HNE.out (drawn_below (HB2.out _ _) (by exact ⟨rfl, rfl, rfl, rfl⟩))
              · have HNE : Hid (fs ≠ gs) := Lib.hid (HNO.out (fun h => q3 (by injection h)))
                cases bb <;> cases bb' <;> first | exact absurd rfl q3 | (
                    go_wp2_with fail
                    go_quiet (fail)
                    go_wp2_with fail
                    go_ret
                    exact same_no HNE.out (drawn_below (HB2.out _ _) (by exact ⟨rfl, rfl, rfl, rfl⟩)))
            · have d2 : ((f : Int) != (f' : Int)) = true := bne_c q2
              have HNE : Hid (fs ≠ gs) := Lib.hid (HNO.out (fun h => q2 (by injection h)))
              go_wp2_with fail
              go_quiet (fail)
              go_wp2_with fail
              go_ret
              exact same_no HNE.out (drawn_below (HB2.out _ _) (by exact ⟨rfl, rfl, rfl, rfl⟩))
          · have d1 : (i != i') = true := bne_i q1
            have HNE : Hid (fs ≠ gs) := Lib.hid (HNO.out (fun h => q1 (by injection h)))
            go_wp2_with fail
            go_quiet (fail)
            go_wp2_with fail
            go_ret
            exact same_no HNE.out (drawn_below (HB2.out _ _) (by exact ⟨rfl, rfl, rfl, rfl⟩))
        · have d0 : ((u : Int) != (u' : Int)) = true := bne_c q0
          have HNE : Hid (fs ≠ gs) := Lib.hid (HNO.out (fun h => q0 (by injection h)))
          go_wp2_with fail
          go_quiet (fail)
          go_wp2_with fail
          go_ret
          exact same_no HNE.out (drawn_below (HB2.out _ _) (by exact ⟨rfl, rfl, rfl, rfl⟩))
      · obtain rfl : k = fs.length := by omega
        have HALL : Hid (fs = gs) := Lib.hid (by have h := HT.out; rwa [List.take_length, HLEN.out, List.take_length] at h)
        have hnl : ¬ ((fs.length : Int) < (fs.length : Int)) := by omega
        clear htk hbel
        go_wp2_with fail
        go_ret
        exact ⟨⟨true, rfl, by simp [HALL.out]⟩, HBW.out⟩
  · have hne : ((fs.length : Int) != (gs.length : Int)) = true := by simp; omega
    have hne2 : (fs.length != gs.length) = true := by simp; omega
    have HNE : Hid (fs ≠ gs) := Lib.hid (fun h => hlen (by rw [h]))
    go_enter Tryd.func10, Tryd.ntmps10
    go_wp2_with fail
    go_ret
    exact same_no HNE.out (Below.refl _ _)
theorem same_says (fs : List Fld) : SameSays fs := flds_ind SameSays same_any fs
end Go.Proofs.YtgikdmognolmoaaDoor
