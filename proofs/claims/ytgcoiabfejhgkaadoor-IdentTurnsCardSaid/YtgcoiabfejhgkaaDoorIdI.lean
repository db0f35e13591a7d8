/- Order: the document's own. -/
import Derived.Test.YtgcoiabfejhgkaaDoorIdH
import Derived.Test.YtgcoiabfejhgkaaDoorIqO
import Derived.BigRegion
namespace Go.Proofs.YtgcoiabfejhgkaaDoor
open Go.RowKit Go.Lib Go.Iq Go.Sort
set_option linter.unusedVariables false

theorem more_q (a b : Int) (s : ByteArray) (ha : idB a = true) (hb : idB b = true) (hs : s.size ≤ 9223372036854775807) (w : World) : Calls Tryd.prog 46 #[.int .i64 a, .int .i64 b, .string s] w fun e w' => e = .returned (.bool (moreB (sumI s.data.toList) a b)) ∧ w' = w :=
  (more_any a b s ha hb hs w).mono fun _ _ h => ⟨h.1, h.2.symm⟩

/-- What the outer loop has: the first of them, sorted. -/
def Sorted (s : Int) (zs : List Int) (i : Nat) (M : List Int) : Prop := M.Perm (zs.take i) ∧ M.Pairwise (fun a b => moreB s a b = true)

set_option maxHeartbeats 2000000 in
set_option maxRecDepth 100000 in
theorem reforder_ok (a : Option Addr) (len cap : Nat) (zs : List Int) (s : ByteArray) (w : World) (hI : IsInts w a len zs) (hl : len * 8 ≤ 140737488351232) (hs : s.size ≤ 9223372036854775807) (hn : nameB s.data.toList = true) (hE : listE zs = 0) :
    Calls Tryd.prog 29 #[.slice a len cap, .string s] w fun e w' => ∃ v L, e = .returned (.tuple #[v, .int .i64 0]) ∧ w'.ownsRow w.heap.size 3 1 v len (L.map (Value.int .i64)) ∧ Wanted (sumI s.data.toList) zs L ∧ Below w.heap.size w w' := by
  obtain ⟨i0, hi, hz0, hz1, hz2⟩ := info_parts infoInt
  have HI := Lib.hid hI
  have HZ := Lib.hid hI.1
  have HL := Lib.hid (fun w (h : IsInts w a len zs) => reflist_any a len cap zs w h (by omega))
  have h1 := Lib.hid (nameE_yes hn)
  have h4 := Lib.hid hE
  have HA := Lib.hid (listE_zero hE).1
  have HD := Lib.hid (listE_zero hE).2
  have HMo := Lib.hid (fun x y (hx : idB x = true) (hy : idB y = true) w => more_q x y s hx hy hs w)
  clear hI hn hE
  generalize sumI s.data.toList = t at *
  go_enter Tryd.func29, Tryd.ntmps29
  go_wp2_with (first | (go_at_call 13; refine (refcheckName_any _ _ hs).mono ?_; rintro e w' ⟨rfl, rfl⟩; rw [h1.out]) | (go_at_call 45; refine (HL.out _ HI.out).mono ?_; rintro e w1 ⟨rfl, hb1⟩; rw [h4.out]; have HB1 := Lib.hid hb1; clear hb1))
  have hsz1 := HB1.out.size
  go_loopw [7, 8] (fun v i wr => ∃ (k : Nat) (M : List Int), k ≤ len ∧ i = .int .i64 k ∧ wr.ownsRow w.heap.size 3 1 v k (M.map (Value.int .i64)) ∧ Sorted t zs k M ∧ Below w.heap.size w wr) (fun _ i _ => len - (intOf i).toNat)
  case atStart => exact ⟨0, [], Nat.zero_le _, rfl, World.ownsRow_nil _ _ _ _, ⟨by simp, List.Pairwise.nil⟩, HB1.out⟩
  case round =>
    obtain ⟨k, M, hk, rfl, hown, hS, hb⟩ := hrel
    obtain ⟨wo, rfl⟩ : ∃ wo : World, wo = wr := ⟨_, rfl⟩
    have HO := Lib.hid hown
    have HS := Lib.hid hS
    have HB := Lib.hid hb
    have hsz := hb.size
    clear hown hS hb
    by_cases hlt : k < len
    · obtain ⟨b, off, rfl, hc⟩ := HI.out.2 (by omega)
      have c0 := hc k hlt
      have c1 : wo.cell? ⟨b, off + k, none⟩ = some (.int .i64 (zs.getD k 0)) := by
        rw [← c0]; exact HB.out.cell (p := ⟨b, off + k, none⟩) (block_lt c0)
      clear hc c0
      have HX := Lib.hid (idB_at HA.out k (by rw [HZ.out]; exact hlt))
      have HT := Lib.hid (take_snocL zs k 0 (by rw [HZ.out]; exact hlt))
      generalize zs.getD k 0 = x at *
      have H63 : Hid (k + 1 ≤ maxLen) := Lib.hid (by unfold maxLen; omega)
      have H47 : Hid ((k + 1) * 8 ≤ 140737488355328) := Lib.hid (by omega)
      have hcs : ∀ j u, ([Value.int .i64 x] : List Value)[j]? = some u → (wo.alloc (.cells #[.int .i64 x] 3)).cell? ((⟨wo.heap.size, 0, none⟩ : Addr).add j) = some u := by
        intro j u hj
        cases j with
        | zero => simp at hj; subst hj; simp [Addr.add]
        | succ j => simp at hj
      have HCS := Lib.hid hcs
      clear hcs
      go_wp2_with (at_builtin; refine wpList_append_own _ rfl _ _ 37 rfl w.heap.size 3 i0 (.int .i64 0) 1 8 Tryd.underlying37 hi hz0 hz1 hz2 rfl (by decide) _ k (M.map (Value.int .i64)) rfl (HO.out.alloc _) ⟨wo.heap.size, 0, none⟩ 1 1 [.int .i64 x] rfl rfl HCS.out (by intro u hu; simp at hu; subst hu; rfl) H63.out H47.out (by simp; omega) ?_; intro v' w3 hown hg hnil; have HO2 := Lib.hid hown; have HG := Lib.hid hg; clear hown hg hnil)
      have HB3 : Hid (Below w.heap.size w w3) := Lib.hid ((HB.out.alloc hsz _).grown HG.out (by simp; omega) (fun k hk => (HO.out.lt k hk).1))
      obtain ⟨g, cap', rfl⟩ : ∃ g cap', v' = .slice (some ⟨g, 0, none⟩) (k + 1) cap' := by
        rcases HO2.out.2 with ⟨_, h⟩ | ⟨g, cap', _, h, _⟩
        · omega
        · exact ⟨g, cap', h⟩
      have hMl : Hid (M.length = k) := Lib.hid (by have := HO.out.1; simpa using this)
      have HO3 : Hid (w3.ownsRow w.heap.size 3 1 (.slice (some ⟨g, 0, none⟩) (k + 1) cap') (k + 1) ((ins M k x).map (Value.int .i64))) := Lib.hid (by
        have := HO2.out
        rwa [show M.map (Value.int .i64) ++ [Value.int .i64 x] = (ins M k x).map (Value.int .i64) by rw [← hMl.out, ins_end]; simp] at this)
      have hgg : w.heap.size ≤ g := (HO3.out.lt g rfl).1
      have hnx : Hid (x ∉ M) := Lib.hid (fun hm => by
        have h2 := HD.out
        unfold nodupB at h2
        simp only [decide_eq_true_eq] at h2
        have h3 : (zs.take (k + 1)).Nodup := h2.sublist (List.take_sublist _ _)
        rw [HT.out, List.nodup_append] at h3
        exact h3.2.2 x (HS.out.1.mem_iff.1 hm) x (by simp) rfl)
      clear HO2 HG HCS HO
      go_loopw [9] (fun i wr => ∃ m : Nat, m ≤ k ∧ i = .int .i64 m ∧ wr.ownsRow w.heap.size 3 1 (.slice (some ⟨g, 0, none⟩) (k + 1) cap') (k + 1) ((ins M m x).map (Value.int .i64)) ∧ (∀ j (h : j < M.length), m ≤ j → moreB t x M[j] = true) ∧ Below w.heap.size w wr) (fun i _ => (intOf i).toNat)
      case atStart => exact ⟨k, Nat.le_refl _, rfl, HO3.out, fun j h1 h2 => absurd h1 (by rw [hMl.out]; omega), HB3.out⟩
      case round =>
        obtain ⟨m, hm, rfl, hown, hmx, hb⟩ := hrel
        have HO := Lib.hid hown
        have HX2 := Lib.hid hmx
        have HB4 := Lib.hid hb
        clear hown hmx hb
        by_cases hm0 : m = 0
        · subst hm0
          have HN : Hid (Sorted t zs (k + 1) (ins M 0 x)) := Lib.hid ⟨(ins_perm M 0 x).trans (by rw [HT.out]; exact HS.out.1.append_right _), ins_rest t M 0 x HS.out.2 hnx.out (Nat.zero_le _) HX2.out (.inl rfl)⟩
          go_wp2
          go_quiet (fail)
          go_wp2
          go_roundw
          case rel => exact ⟨k + 1, ins M 0 x, by omega, by go_num, HO.out, HN.out, below_drewN HB4.out _⟩
          case measure => simp [intOf]; omega
        · have hmp : 0 < m := by omega
          have hml : m ≤ M.length := by rw [hMl.out]; exact hm
          obtain ⟨y, hy⟩ : ∃ y, M[m - 1]? = some y := ⟨_, List.getElem?_eq_getElem (by omega)⟩
          have HY := Lib.hid hy
          have hidy : idB y = true := List.all_eq_true.1 HA.out y (List.mem_of_mem_take (HS.out.1.mem_iff.1 (List.mem_of_getElem? hy)))
          have c1' : wr.cell? ⟨g, m, none⟩ = some (.int .i64 x) := by
            rw [HO.out.cellAt m (by omega), List.getElem?_map, ins_at M m x hml]; rfl
          have c2' : wr.cell? ⟨g, m - 1, none⟩ = some (.int .i64 y) := by
            rw [HO.out.cellAt (m - 1) (by omega), List.getElem?_map, ins_ahead M m x (m - 1) (by omega) hml, hy]; rfl
          have f1 : ∀ j, wr.frozen? ⟨g, j, none⟩ = false := fun j => HO.out.frozenAt j
          have HM := Lib.hid (HMo.out x y HX.out hidy)
          have HML := Lib.hid hml
          clear hy hidy hml
          cases hmr : moreB t x y
          · have HN : Hid (Sorted t zs (k + 1) (ins M m x)) := Lib.hid ⟨(ins_perm M m x).trans (by rw [HT.out]; exact HS.out.1.append_right _), ins_rest t M m x HS.out.2 hnx.out HML.out HX2.out (.inr ⟨y, HY.out, hmr⟩)⟩
            rw [hmr] at HM
            clear hmr
            go_wp2
            go_quiet ((go_at_call 46; exact Calls.quiet_of_same (HM.out _)))
            go_wp2
            go_roundw
            case rel => exact ⟨k + 1, ins M m x, by omega, by go_num, HO.out, HN.out, below_drewN HB4.out _⟩
            case measure => simp [intOf]; omega
          · rw [hmr] at HM
            go_wp2
            go_quiet ((go_at_call 46; exact Calls.quiet_of_same (HM.out _)))
            go_wp2
            go_big_region
            go_wp2
            have HIN : Hid (((wr.setCell ⟨g, m, none⟩ (.int .i64 y)).setCell ⟨g, m - 1, none⟩ (.int .i64 x)).ownsRow w.heap.size 3 1 (.slice (some ⟨g, 0, none⟩) (k + 1) cap') (k + 1) ((ins M (m - 1) x).map (Value.int .i64))) := Lib.hid (by
              have h2 := ((HO.out.stored m (.int .i64 y)).1.stored (m - 1) (.int .i64 x)).1
              rwa [← List.map_set, ← List.map_set, ins_step M m x y hmp HML.out HY.out] at h2)
            have HX3 : Hid (∀ j (h : j < M.length), m - 1 ≤ j → moreB t x M[j] = true) := Lib.hid (fun j h hj => by
              by_cases e : j = m - 1
              · subst e
                have := HY.out
                rw [List.getElem?_eq_getElem h] at this
                cases this; exact hmr
              · exact HX2.out j h (by omega))
            go_roundw
            case rel => exact ⟨m - 1, by omega, by rw [show ((m - 1 : Nat) : Int) = (m : Int) - 1 by omega], HIN.out, HX3.out, below_drewN ((HB4.out.setCell hgg _).setCell hgg _) _⟩
            case measure => simp [intOf]; omega
    · obtain rfl : k = len := by omega
      go_wp2
      go_ret2
      exact ⟨_, M, rfl, HO.out, by have := HS.out; rw [Sorted, List.take_of_length_le (by rw [HZ.out]; exact Nat.le_refl _)] at this; exact this, HB.out⟩
end Go.Proofs.YtgcoiabfejhgkaaDoor
