/- The law on turned lists. -/
import Derived.Test.YtgcoiabfejhgkaaDoorIdJ
namespace Go.Proofs.YtgcoiabfejhgkaaDoor
open Go.RowKit Go.Lib Go.Iq Go.Sort
set_option linter.unusedVariables false

theorem own_ints {w : World} {base : Nat} {e : TypeId} {a : Option Addr} {n cap : Nat} {zs : List Int} (h : w.ownsRow base e 1 (.slice a n cap) n (zs.map (Value.int .i64))) : IsInts w a n zs := by
  obtain ⟨x, y, e, _, hi⟩ := ints_of_own h; cases e; exact hi
theorem isInts_drop {w : World} {b off len : Nat} {zs : List Int} (h : IsInts w (some ⟨b, off, none⟩) len zs) (i : Nat) (hi : i < len) : IsInts w (some ⟨b, off + i, none⟩) (len - i) (zs.drop i) := by
  refine ⟨by rw [List.length_drop, h.1], fun _ => ⟨b, off + i, rfl, fun j hj => ?_⟩⟩
  obtain ⟨b', off', he, hc⟩ := h.2 (by omega)
  cases he
  have := hc (i + j) (by omega)
  rw [Nat.add_assoc, this]
  have hl := h.1
  rw [getD_get zs (i + j) 0 (by omega), getD_get (zs.drop i) j 0 (by rw [List.length_drop]; omega), List.getElem_drop]

set_option maxHeartbeats 2000000 in
set_option maxRecDepth 100000 in
theorem law_turns_no (a : Option Addr) (len cap : Nat) (zs : List Int) (s : ByteArray) (r : Nat) (W : World) (hI : IsInts W a len zs) (hcap : a = none → cap = 0) (hl : len * 8 ≤ 140737488351232) (hs : s.size ≤ 9223372036854775807) (hE : orderE s.data.toList zs ≠ 0) :
    Calls Tryd.prog 8 #[.slice a len cap, .string s, .int .u8 r] W fun e w' => e = .returned (.bool true) ∧ Below W.heap.size W w' := by
  have HI := Lib.hid hI
  have HC := Lib.hid (fun w (h : IsInts w a len zs) => copied_any a len cap zs w h hcap (by omega))
  have HO := Lib.hid (fun a' cap' w (h : IsInts w a' len zs) => order_no a' len cap' zs s w h hl hs hE)
  have HOR := Lib.hid (fun w (h : IsInts w a len zs) => reforder_no a len cap zs s w h hl hs hE)
  have hne : (orderE s.data.toList zs != 0) = true := by simpa using hE
  have hee : ((orderE s.data.toList zs : Int) == orderE s.data.toList zs) = true := by simp
  clear hI hE
  generalize orderE s.data.toList zs = oe at *
  go_enter Tryd.func8, Tryd.ntmps8
  go_wp2_with fail
  refine (HC.out _ HI.out).mono ?_
  rintro e w1 ⟨a1, cap1, rfl, hown1, hb1⟩
  have HI1 := Lib.hid (own_ints hown1)
  have HB1 := Lib.hid hb1
  clear hown1 hb1
  go_wp2_with fail
  refine (HO.out _ _ _ HI1.out).mono ?_
  rintro e w2 ⟨rfl, hb2⟩
  have HB2 := Lib.hid (below_next HB1.out hb2)
  clear hb2
  go_wp2_with fail
  refine (HOR.out _ (HI.out.below HB2.out)).mono ?_
  rintro e w3 ⟨rfl, hb3⟩
  have HB3 := Lib.hid (below_next HB2.out hb3)
  clear hb3
  go_wp2_with (go_at_call 14; refine (awake_any _).mono ?_; rintro e w8 ⟨rfl, hb8⟩)
  go_ret
  exact ⟨rfl, below_next HB3.out hb8⟩

set_option maxHeartbeats 4000000 in
set_option maxRecDepth 100000 in
theorem law_turns_ok (a : Option Addr) (len cap : Nat) (zs : List Int) (s : ByteArray) (r : Nat) (W : World) (hI : IsInts W a len zs) (hcap : a = none → cap = 0) (hl : len * 8 ≤ 140737488351232) (hs : s.size ≤ 9223372036854775807) (hr : r < 256) (hE : orderE s.data.toList zs = 0) :
    Calls Tryd.prog 8 #[.slice a len cap, .string s, .int .u8 r] W fun e w' => e = .returned (.bool true) ∧ Below W.heap.size W w' := by
  obtain ⟨i0, hi, hz0, hz1, hz2⟩ := info_parts infoInt
  have HI := Lib.hid hI
  have HZ := Lib.hid hI.1
  have HC := Lib.hid (fun w (h : IsInts w a len zs) => copied_any a len cap zs w h hcap (by omega))
  have HO := Lib.hid (fun a' cap' w (h : IsInts w a' len zs) => order_any a' len cap' zs s w h hl hs)
  have HOT := Lib.hid (fun a' cap' w (h : IsInts w a' len (turn zs len r len)) => order_any a' len cap' _ s w h hl hs)
  rw [orderE_perm (turn_perm zs len r HZ.out), orderR_perm (turn_perm zs len r HZ.out)] at HOT
  have HDr := Lib.hid (fun i (h : i < len) => drop_draw s.data.toList zs hE i (by rw [HZ.out]; exact h))
  have HLe : Hid ((orderR s.data.toList zs).length = len) := Lib.hid (by rw [orderR_ok hE, orderW_length, HZ.out])
  have HSm := Lib.hid (fun a b c1 c2 w (hA : IsInts w a len (orderR s.data.toList zs)) (hB : IsInts w b len (orderR s.data.toList zs)) => same_yes a b len c1 c2 _ w hA hB (by omega))
  have HCd := Lib.hid (fun b off i cap' w (h : IsInts w (some ⟨b, off, none⟩) len (orderR s.data.toList zs)) (h2 : i < len) => copied_any (some ⟨b, off + i, none⟩) (len - i) cap' _ w (isInts_drop h i h2) (fun h => by cases h) (by omega))
  have HDd := Lib.hid (fun a' cap' i w (h : IsInts w a' (len - i) ((orderR s.data.toList zs).drop i)) => draw_any a' (len - i) cap' _ s w h (by omega) hs)
  clear hI
  rw [hE] at HO HOT
  clear hE
  have HDq : Hid (∀ a' cap' i w, i < len → IsInts w a' (len - i) ((orderR s.data.toList zs).drop i) → Calls Tryd.prog 25 #[.slice a' ((len - i : Nat)) cap', .string s] w fun e w' => e = .returned (.tuple #[.int .i64 ((orderR s.data.toList zs).getD i 0), .int .i64 0]) ∧ Below w.heap.size w w') := Lib.hid (fun a' cap' i w h1 h2 => by
    have h3 := HDd.out a' cap' i w h2
    rwa [(HDr.out i h1).1, (HDr.out i h1).2] at h3)
  clear HDr HDd
  generalize orderR s.data.toList zs = os at *
  go_enter Tryd.func8, Tryd.ntmps8
  go_wp2_with fail
  refine (HC.out _ HI.out).mono ?_
  rintro e w1 ⟨a1, cap1, rfl, hown1, hb1⟩
  have HI1 := Lib.hid (own_ints hown1)
  have HB1 := Lib.hid hb1
  clear hown1 hb1
  go_wp2_with fail
  refine (HO.out _ _ _ HI1.out).mono ?_
  rintro e w2 ⟨a2, n2, cap2, rfl, hi2, hf2, hb2⟩
  obtain rfl : n2 = len := by rw [← hi2.1, HLe.out]
  have HI2 := Lib.hid hi2
  have HF2 := Lib.hid hf2
  have HB2 := Lib.hid (below_next HB1.out hb2)
  clear hi2 hf2 hb2 HI1 HB1
  have hsz2 := HB2.out.size
  go_wp2
  go_loopw [11, 12] (fun v i wr => ∃ k : Nat, k ≤ n2 ∧ i = .int .i64 k ∧ wr.ownsRow w2.heap.size 3 1 v k ((turn zs n2 r k).map (Value.int .i64)) ∧ Below w2.heap.size w2 wr) (fun _ i _ => n2 - (intOf i).toNat)
  case atStart => exact ⟨0, Nat.zero_le _, rfl, World.ownsRow_nil _ _ _ _, Below.refl _ _⟩
  case round =>
    obtain ⟨k, hk, rfl, hown, hb⟩ := hrel
    obtain ⟨wo, rfl⟩ : ∃ wo : World, wo = wr := ⟨_, rfl⟩
    have HO1 := Lib.hid hown
    have HB := Lib.hid hb
    have hsz := hb.size
    clear hown hb
    by_cases hlt : k < n2
    · obtain ⟨b, off, rfl, hc⟩ := (HI.out.below HB2.out).2 (by omega)
      have hm : (k + r) % n2 < n2 := Nat.mod_lt _ (by omega)
      have c0 := hc _ hm
      have c1 : wo.cell? ⟨b, off + (k + r) % n2, none⟩ = some (.int .i64 (zs.getD ((k + r) % n2) 0)) := by
        rw [← c0]; exact HB.out.cell (p := ⟨b, off + (k + r) % n2, none⟩) (block_lt c0)
      clear hc c0
      have HT := Lib.hid (turn_snoc zs n2 r k)
      generalize zs.getD ((k + r) % n2) 0 = x at *
      have H63 : Hid (k + 1 ≤ maxLen) := Lib.hid (by unfold maxLen; omega)
      have H47 : Hid ((k + 1) * 8 ≤ 140737488355328) := Lib.hid (by omega)
      have hcs : ∀ j u, ([Value.int .i64 x] : List Value)[j]? = some u → (wo.alloc (.cells #[.int .i64 x] 3)).cell? ((⟨wo.heap.size, 0, none⟩ : Addr).add j) = some u := by
        intro j u hj
        cases j with
        | zero => simp at hj; subst hj; simp [Addr.add]
        | succ j => simp at hj
      have HCS := Lib.hid hcs
      clear hcs
      have htn : (((k : Int) + r) % n2).toNat = (k + r) % n2 := by
        rw [← Int.natCast_add, ← Int.natCast_emod]; rfl
      have hmi : 0 ≤ ((k : Int) + r) % n2 ∧ ((k : Int) + r) % n2 < n2 := ⟨Int.emod_nonneg _ (by omega), Int.emod_lt_of_pos _ (by omega)⟩
      go_wp2_with (at_builtin; refine wpList_append_own _ rfl _ _ 37 rfl w2.heap.size 3 i0 (.int .i64 0) 1 8 Tryd.underlying37 hi hz0 hz1 hz2 rfl (by decide) _ k _ rfl (HO1.out.alloc _) ⟨wo.heap.size, 0, none⟩ 1 1 [.int .i64 x] rfl rfl HCS.out (by intro u hu; simp at hu; subst hu; rfl) H63.out H47.out (by simp; omega) ?_; intro v' w3 hown hg hnil; have HO2 := Lib.hid hown; have HG := Lib.hid hg; clear hown hg hnil)
      go_roundw
      case rel =>
        refine ⟨k + 1, by omega, by go_num, ?_, (HB.out.alloc hsz _).grown HG.out (by simp; omega) (fun k hk => (HO1.out.lt k hk).1)⟩
        have := HO2.out
        rw [HT.out, List.map_append]
        exact this
      case measure => simp [intOf]; omega
    · obtain rfl : k = n2 := by omega
      obtain ⟨a3, cap3, rfl⟩ : ∃ a3 cap3, u11 = .slice a3 k cap3 := by
        obtain ⟨x, y, e, _, _⟩ := ints_of_own HO1.out; exact ⟨x, y, e⟩
      have HI3 := Lib.hid (own_ints HO1.out)
      have HI2' := Lib.hid (HI2.out.below HB.out)
      have HB3 := Lib.hid (below_next HB2.out HB.out)
      have hkk : ((k : Int) != k) = false := by simp
      clear HO1 HB hlt
      go_wp2_with fail
      refine (HOT.out _ _ _ HI3.out).mono ?_
      rintro e w4 ⟨a4, n4, cap4, rfl, hi4, _, hb4⟩
      obtain rfl : n4 = k := by rw [← hi4.1, HLe.out]
      have HI2b := Lib.hid (HI2'.out.below hb4)
      have HS := Lib.hid (HSm.out _ _ cap2 cap4 _ HI2b.out hi4)
      have HB4 := Lib.hid (below_next HB3.out hb4)
      clear hi4 hb4 HI2' HI3
      go_wp2_with (go_at_call 30; refine HS.out.mono ?_; rintro e w5 ⟨rfl, q5, hw5⟩; have HW5 := Lib.hid hw5; clear hw5)
      have HB5 : Hid (Below W.heap.size W w5) := Lib.hid (by rw [HW5.out]; exact below_drewN HB4.out _)
      have HI5 : Hid (IsInts w5 a2 n4 os) := Lib.hid (by rw [HW5.out]; exact HI2b.out.drewN _)
      clear HW5 HI2b HB4
      go_loopw [15] (fun i wr => ∃ k : Nat, k ≤ n4 ∧ i = .int .i64 k ∧ Below w5.heap.size w5 wr) (fun i _ => n4 - (intOf i).toNat)
      case atStart => exact ⟨0, Nat.zero_le _, rfl, Below.refl _ _⟩
      case round =>
        obtain ⟨k, hk, rfl, hb⟩ := hrel
        have HB := Lib.hid hb
        clear hb
        by_cases hlt : k < n4
        · have HIw := Lib.hid (HI5.out.below HB.out)
          obtain ⟨b, off, rfl, hc⟩ := HIw.out.2 (by omega)
          have c1 := hc k hlt
          have hck : k < cap2 := by have := HF2.out.1; omega
          have hckl : k ≤ cap2 := by omega
          have hcne : ¬ k = cap2 := by omega
          have HQ := Lib.hid (fun a' cap' w (h : IsInts w a' (n4 - k) (os.drop k)) => HDq.out a' cap' k w hlt h)
          have HCk := Lib.hid (fun cap' w (h : IsInts w (some ⟨b, off, none⟩) n4 os) => HCd.out b off k cap' w h hlt)
          clear hc
          generalize os.getD k 0 = x at *
          have hxx : ((x : Int) != x) = false := by simp
          go_wp2_with fail
          refine (HCk.out _ _ HIw.out).mono ?_
          rintro e w6 ⟨a6, cap6, rfl, hown6, hb6⟩
          have HI6 := Lib.hid (own_ints hown6)
          have HB6 := Lib.hid (below_next HB.out hb6)
          have c2 : w6.cell? ⟨b, off + k, none⟩ = some (.int .i64 x) := (hb6.cell (p := ⟨b, off + k, none⟩) (block_lt c1)).trans c1
          clear hown6 hb6 c1
          go_wp2_with fail
          refine (HQ.out _ _ _ HI6.out).mono ?_
          rintro e w7 ⟨rfl, hb7⟩
          have HB7 := Lib.hid (below_next HB6.out hb7)
          have c3 : w7.cell? ⟨b, off + k, none⟩ = some (.int .i64 x) := (hb7.cell (p := ⟨b, off + k, none⟩) (block_lt c2)).trans c2
          clear hb7 c2
          go_wp2
          go_roundw
          case rel => exact ⟨k + 1, by omega, by go_num, HB7.out⟩
          case measure => simp [intOf]; omega
        · obtain rfl : k = n4 := by omega
          go_wp2_with (go_at_call 14; refine (awake_any _).mono ?_; rintro e w8 ⟨rfl, hb8⟩)
          go_ret
          exact ⟨rfl, below_next (below_next HB5.out HB.out) hb8⟩

theorem law_turns (a : Option Addr) (len cap : Nat) (zs : List Int) (s : ByteArray) (by' : Int) (W : World) (wz : IsInts W a len zs ∧ (∀ z ∈ zs, (Lit.int .i64 z).wf = true) ∧ (a = none → cap = 0)) (hl : len * 8 ≤ 140737488351232) (_ : s.size ≤ maxLen) (hs0 : s.size ≤ 140737488351232) (wb : (Lit.int .u8 by').wf = true) :
    Calls Tryd.prog 8 #[.slice a len cap, .string s, .int .u8 by'] W fun e w' => e = .returned (.bool true) ∧ Below W.heap.size W w' := by
  have h : 0 ≤ by' ∧ by' < 256 := by
    simp only [Lit.wf, IntKind.min, IntKind.max, IntKind.signed, IntKind.bits, Bool.and_eq_true] at wb
    have h1 := wb.1
    have h2 := wb.2
    simp at h1 h2
    omega
  obtain ⟨r, rfl⟩ := Int.eq_ofNat_of_zero_le h.1
  by_cases hE : orderE s.data.toList zs = 0
  · exact law_turns_ok a len cap zs s r W wz.1 wz.2.2 hl (by omega) (by omega) hE
  · exact law_turns_no a len cap zs s r W wz.1 wz.2.2 hl (by omega) hE
end Go.Proofs.YtgcoiabfejhgkaaDoor
