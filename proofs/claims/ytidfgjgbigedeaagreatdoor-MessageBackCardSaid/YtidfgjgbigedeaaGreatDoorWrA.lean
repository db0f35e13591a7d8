/- Package beaconref04's small functions: Varint, add. The reference's zero. -/
import Derived.Test.YtidfgjgbigedeaaGreatDoorProg
import Derived.WalkKit
import Derived.ProofKit
import Derived.Lib.Hide
import Derived.LoopTactic
import Derived.Outline
import Derived.IntWalk
import Derived.BigQuiet
import Derived.Deep.QuietTactic
import Derived.Laws.Bits64
import Derived.Test.YtidfgjgbigedeaaGreatDoorWqAll
section
namespace Go.Proofs.YtidfgjgbigedeaaGreatDoor
open Go.RowKit Go.Lib Go.Wq
set_option linter.unusedVariables false
set_option linter.unusedSimpArgs false

set_option maxRecDepth 100000 in
theorem info8 : ∃ i : TypeInfo, Tryz.prog.info? 5 = some i ∧ i.zero = some (.int .u8 0) ∧ i.size = 1 ∧ i.bytes = 1 := by
  refine ⟨_, rfl, ?_, ?_, ?_⟩ <;> kernel_rfl

set_option maxHeartbeats 1000000 in
theorem refVarint_any (n0 : Nat) (h0 : n0 < 18446744073709551616) (w : World) : Calls Tryz.prog 72 #[.int .u64 (n0 : Int)] w fun e w' => e = .returned (.string ⟨(vint n0).toArray⟩) ∧ Below w.heap.size w w' := by
  obtain ⟨i0, hi, hz0, hz1, hz2⟩ := info8
  go_enter Tryz.func72, Tryz.ntmps72
  go_wp2
  go_loopw [0, 3] (fun m v wr => ∃ (n k : Nat) (pre : List UInt8), n < 18446744073709551616 ∧ m = .int .u64 (n : Int) ∧ k = pre.length ∧ k + (vint n).length = (vint n0).length ∧ pre ++ vint n = vint n0 ∧ wr.ownsRow w.heap.size 5 1 v k (bcs pre) ∧ Below w.heap.size w wr) (fun m _ _ => (intOf m).toNat)
  case atStart => exact ⟨n0, 0, [], h0, rfl, rfl, by simp, rfl, World.ownsRow_nil _ _ _ _, Below.refl _ _⟩
  case round =>
    obtain ⟨n, k, pre, hn, rfl, hk, hkl, hpre, hown, hb⟩ := hrel
    have hten := vint_ten n0 h0
    have hsz := hb.size
    by_cases hlt : 127 < n
    · have HO := Lib.hid hown
      have HB := Lib.hid hb
      have hv : vint n = UInt8.ofNat (n % 128 + 128) :: vint (n / 128) := vint_big (by omega)
      have hkl2 : k + ((vint (n / 128)).length + 1) = (vint n0).length := by rw [← hkl, hv]; simp
      have H63 : Hid (k + 1 ≤ maxLen) := Lib.hid (by unfold maxLen; omega)
      have H47 : Hid ((k + 1) * 1 ≤ 140737488355328) := Lib.hid (by omega)
      have hg7 := group7 n hn
      have HCS : Hid (∀ j u, (bcs [UInt8.ofNat (n % 128 + 128)])[j]? = some u → (wr.alloc (.cells #[.int .u8 ((UInt8.ofNat (n % 128 + 128)).toNat : Int)] 5)).cell? ((⟨wr.heap.size, 0, none⟩ : Addr).add j) = some u) := Lib.hid (by
        intro j u hj
        cases j with
        | zero => simp [bcs] at hj; subst hj; simp [Addr.add]
        | succ j => simp [bcs] at hj)
      have HPre := Lib.hid hpre
      have HV := Lib.hid hv
      clear hown hb hpre hv
      generalize hc : UInt8.ofNat (n % 128 + 128) = c at *
      have HN := Lib.hid hn
      have HKL := Lib.hid hkl2
      have HK := Lib.hid hk
      have ht : (127 : Int) < (n : Int) := by omega
      go_wp2_with (at_builtin; rw [hg7]; refine wpList_append_own _ rfl _ _ 61 rfl w.heap.size 5 i0 (.int .u8 0) 1 1 Tryz.underlying61 hi hz0 hz1 hz2 rfl (by decide) _ k (bcs pre) rfl (HO.out.alloc _) ⟨wr.heap.size, 0, none⟩ 1 1 (bcs [c]) rfl rfl HCS.out (by intro u hu; simp [bcs] at hu; subst hu; rfl) H63.out H47.out (by simp; omega) ?_; intro v' w3 hown hg hnil; have HO2 := Lib.hid hown; have HG := Lib.hid hg; clear hown hg hnil)
      have hb3 : Below w.heap.size w w3 := (HB.out.alloc hsz _).grown HG.out (by simp; omega) (fun k hk => (HO.out.lt k hk).1)
      have hHN := HN.out
      refine ⟨⟨n / 128, k + 1, pre ++ [c], by omega, by simp, by simp [HK.out], by have := HKL.out; omega, by rw [List.append_assoc, List.singleton_append, ← HV.out]; exact HPre.out, by rw [bcs_append]; exact HO2.out, hb3⟩, ?_⟩
      simp only [intOf]
      omega
    · have HO := Lib.hid hown
      have HB := Lib.hid hb
      have hn7 : n < 128 := by omega
      have hv : vint n = [UInt8.ofNat n] := vint_small hn7
      have hkl2 : k + 1 = (vint n0).length := by rw [← hkl, hv]; simp
      have H63 : Hid (k + 1 ≤ maxLen) := Lib.hid (by unfold maxLen; omega)
      have H47 : Hid ((k + 1) * 1 ≤ 140737488355328) := Lib.hid (by omega)
      have hl7 : bcs [UInt8.ofNat n] = [Value.int .u8 (n : Int)] := by simp [bcs, Nat.mod_eq_of_lt (show n < 256 by omega)]
      have HCS : Hid (∀ j u, ([Value.int .u8 (n : Int)] : List Value)[j]? = some u → (wr.alloc (.cells #[.int .u8 (n : Int)] 5)).cell? ((⟨wr.heap.size, 0, none⟩ : Addr).add j) = some u) := Lib.hid (by
        intro j u hj
        cases j with
        | zero => simp at hj; subst hj; simp [Addr.add]
        | succ j => simp at hj)
      have ht : ¬ (127 : Int) < (n : Int) := by omega
      have HT : Hid (∀ w' v', w'.ownsRow w.heap.size 5 1 v' (k + 1) (bcs pre ++ [Value.int .u8 (n : Int)]) → (convert 61 9 v').run Tryz.prog w' = .ok (.string ⟨(vint n0).toArray⟩) w') := Lib.hid (fun w' v' h => by
        rw [← hpre, hv]
        exact own_text _ _ Tryz.underlying61 Tryz.underlying5 Tryz.underlying9 (by rw [bcs_append, hl7]; exact h))
      clear hown hb hpre hv hl7
      go_wp2_with (at_builtin; refine wpList_append_own _ rfl _ _ 61 rfl w.heap.size 5 i0 (.int .u8 0) 1 1 Tryz.underlying61 hi hz0 hz1 hz2 rfl (by decide) _ k (bcs pre) rfl (HO.out.alloc _) ⟨wr.heap.size, 0, none⟩ 1 1 [.int .u8 (n : Int)] rfl rfl HCS.out (by intro u hu; simp at hu; subst hu; rfl) H63.out H47.out (by simp; omega) ?_; intro v' w3 hown hg hnil; have htx := HT.out _ _ hown; have HG := Lib.hid hg; clear hown hg hnil)
      go_ret
      exact ⟨rfl, (HB.out.alloc hsz _).grown HG.out (by simp; omega) (fun k hk => (HO.out.lt k hk).1)⟩

/-- What has been put so far: the bytes themselves, or so many that they are too many. -/
def Cap (b x : List UInt8) : Prop := (b = x ∧ x.length ≤ 65536) ∨ (65536 < b.length ∧ b.length ≤ 131073 ∧ 65536 < x.length)

theorem Cap.len {b x : List UInt8} (h : Cap b x) : b.length ≤ 131073 := by rcases h with ⟨rfl, h⟩ | ⟨_, h, _⟩ <;> omega
theorem Cap.keep {b x : List UInt8} (h : Cap b x) (hb : 65536 < b.length) (y : List UInt8) : Cap b (x ++ y) := by
  rcases h with ⟨rfl, h⟩ | ⟨h1, h2, h3⟩
  · omega
  · exact Or.inr ⟨h1, h2, by simp; omega⟩
theorem Cap.more {b x : List UInt8} (h : Cap b x) (hb : b.length ≤ 65536) (y : List UInt8) (hy : y.length ≤ 65536) : Cap (b ++ y) (x ++ y) := by
  rcases h with ⟨rfl, h⟩ | ⟨h1, h2, h3⟩
  · by_cases hl : (b ++ y).length ≤ 65536
    · exact Or.inl ⟨rfl, hl⟩
    · exact Or.inr ⟨by omega, by rw [List.length_append]; omega, by omega⟩
  · omega
theorem Cap.much {b x : List UInt8} (h : Cap b x) (hb : b.length ≤ 65536) (y : List UInt8) (hy : 65536 < y.length) : Cap (b ++ y.take 65537) (x ++ y) := by
  rcases h with ⟨rfl, h⟩ | ⟨h1, h2, h3⟩
  · exact Or.inr ⟨by rw [List.length_append, List.length_take]; omega, by rw [List.length_append, List.length_take]; omega, by rw [List.length_append]; omega⟩
  · omega

/-- How adding ends: with bytes that the call owns. -/
def Added (base : Nat) (x : List UInt8) (v : Value) (w : World) (e : Ending) (w' : World) : Prop :=
  ∃ (v' : Value) (b' : List UInt8), e = .returned v' ∧ w'.ownsRow base 5 1 v' b'.length (bcs b') ∧ Cap b' x ∧ Grew w w' v v'

set_option maxHeartbeats 1000000 in
theorem add_any (base : Nat) (v : Value) (n : Nat) (b x : List UInt8) (s : ByteArray) (w : World) (hn : n = b.length) (hown : w.ownsRow base 5 1 v n (bcs b)) (hcap : Cap b x) (hbase : base ≤ w.heap.size) (hs : s.size ≤ 140737488351232) :
    Calls Tryz.prog 71 #[v, .string s] w fun e w' => Added base (x ++ s.data.toList) v w e w' := by
  obtain ⟨i0, hi, hz0, hz1, hz2⟩ := info8
  have hlen := hcap.len
  have HO := Lib.hid hown
  have hsd : s.data.toList.length = s.size := by rw [Array.length_toList]; rfl
  by_cases hb : 65536 < b.length
  · have hR : Added base (x ++ s.data.toList) v w (.returned v) w := ⟨v, b, rfl, by rw [← hn]; exact hown, hcap.keep hb _, Grew.refl _ _⟩
    have HR := Lib.hid hR
    have ht : (65536 : Int) < (n : Int) := by omega
    rcases hown.2 with ⟨rfl, h0⟩ | ⟨g, cap, cur, rfl, -⟩
    · omega
    · clear hown hR HO hcap hn
      go_enter Tryz.func71, Tryz.ntmps71
      go_wp2_with fail
      go_ret
      exact HR.out
  · have ht : ¬ (65536 : Int) < (n : Int) := by omega
    by_cases hs2 : 65536 < s.size
    · have H63 : Hid (n + (s.extract 0 65537).size ≤ maxLen) := Lib.hid (by rw [ByteArray.size_extract]; unfold maxLen; omega)
      have H47 : Hid (n + (s.extract 0 65537).size ≤ 140737488355328) := Lib.hid (by rw [ByteArray.size_extract]; omega)
      have hR : ∀ v' w', w'.ownsRow base 5 1 v' (n + (s.extract 0 65537).size) (bcs b ++ strCells (s.extract 0 65537)) → Grew w w' v v' → Added base (x ++ s.data.toList) v w (.returned v') w' := fun v' w' h1 h2 => by
        have e : (s.extract 0 65537).data.toList = s.data.toList.take 65537 := by simp
        refine ⟨v', b ++ s.data.toList.take 65537, rfl, ?_, hcap.much (by omega) _ (by omega), h2⟩
        rw [strCells_bcs, e, ← bcs_append] at h1
        have hl : n + (s.extract 0 65537).size = (b ++ s.data.toList.take 65537).length := by rw [ByteArray.size_extract]; simp; omega
        rw [← hl]; exact h1
      have HR := Lib.hid hR
      have HS : Hid (∀ u, s.extract 0 65537 = u → s.extract 0 65537 = u) := Lib.hid (fun _ h => h)
      have ht2 : (65536 : Int) < (s.size : Int) := by omega
      have hlt := HO.out.lt
      have HB := Lib.hid hbase
      rcases hown.2 with ⟨rfl, h0⟩ | ⟨g, cap, cur, rfl, -⟩
      · clear hown hR hcap hn
        go_enter Tryz.func71, Tryz.ntmps71
        go_wp2_with (at_builtin; refine wpList_append_text _ rfl _ _ 61 9 rfl base 5 i0 Tryz.underlying61 Tryz.underlying9 hi hz0 hz1 hz2 _ n (bcs b) rfl HO.out (s.extract 0 65537) rfl H63.out H47.out HB.out ?_; intro v' w' hown hg; have HO2 := Lib.hid hown; have HG := Lib.hid hg; clear hown hg)
        go_ret
        exact HR.out _ _ HO2.out HG.out
      · clear hown hR hcap hn
        go_enter Tryz.func71, Tryz.ntmps71
        go_wp2_with (at_builtin; refine wpList_append_text _ rfl _ _ 61 9 rfl base 5 i0 Tryz.underlying61 Tryz.underlying9 hi hz0 hz1 hz2 _ n (bcs b) rfl HO.out (s.extract 0 65537) rfl H63.out H47.out HB.out ?_; intro v' w' hown hg; have HO2 := Lib.hid hown; have HG := Lib.hid hg; clear hown hg)
        go_ret
        exact HR.out _ _ HO2.out HG.out
    · have H63 : Hid (n + s.size ≤ maxLen) := Lib.hid (by unfold maxLen; omega)
      have H47 : Hid (n + s.size ≤ 140737488355328) := Lib.hid (by omega)
      have hR : ∀ v' w', w'.ownsRow base 5 1 v' (n + s.size) (bcs b ++ strCells s) → Grew w w' v v' → Added base (x ++ s.data.toList) v w (.returned v') w' := fun v' w' h1 h2 => by
        refine ⟨v', b ++ s.data.toList, rfl, ?_, hcap.more (by omega) _ (by omega), h2⟩
        rw [strCells_bcs, ← bcs_append] at h1
        have hl : n + s.size = (b ++ s.data.toList).length := by rw [List.length_append, hsd, hn]
        rw [← hl]; exact h1
      have HR := Lib.hid hR
      have ht2 : ¬ (65536 : Int) < (s.size : Int) := by omega
      have hlt := HO.out.lt
      have HB := Lib.hid hbase
      rcases hown.2 with ⟨rfl, h0⟩ | ⟨g, cap, cur, rfl, -⟩
      · clear hown hR hcap hn
        go_enter Tryz.func71, Tryz.ntmps71
        go_wp2_with (at_builtin; refine wpList_append_text _ rfl _ _ 61 9 rfl base 5 i0 Tryz.underlying61 Tryz.underlying9 hi hz0 hz1 hz2 _ n (bcs b) rfl HO.out s rfl H63.out H47.out HB.out ?_; intro v' w' hown hg; have HO2 := Lib.hid hown; have HG := Lib.hid hg; clear hown hg)
        go_ret
        exact HR.out _ _ HO2.out HG.out
      · clear hown hR hcap hn
        go_enter Tryz.func71, Tryz.ntmps71
        go_wp2_with (at_builtin; refine wpList_append_text _ rfl _ _ 61 9 rfl base 5 i0 Tryz.underlying61 Tryz.underlying9 hi hz0 hz1 hz2 _ n (bcs b) rfl HO.out s rfl H63.out H47.out HB.out ?_; intro v' w' hown hg; have HO2 := Lib.hid hown; have HG := Lib.hid hg; clear hown hg)
        go_ret
        exact HR.out _ _ HO2.out HG.out
end Go.Proofs.YtidfgjgbigedeaaGreatDoor
end

section
namespace Go.Proofs.YtidfgjgbigedeaaGreatDoor
open Go.RowKit Go.Lib Go.Wq
set_option linter.unusedVariables false
set_option linter.unusedSimpArgs false
set_option maxRecDepth 100000

theorem w_bits (b : Nat) (w : World) : (callFunc 60 #[.float .f64 b]).run Tryz.prog w = .ok (.value (.int .u64 b)) w := by
  rw [run_callFunc_extern Tryz.func60 (by kernel_rfl) (by kernel_rfl) (by kernel_rfl) (e := Extern.MathFloatBits.float64bits) (by kernel_rfl)]; rfl
theorem w_not (x : Bool) (w : World) : (Op.unary .not (.bool x)).run Tryz.prog w = .ok (.bool (!x)) w := rfl
def zeroV (c : Int) (u : Int) (i : Int) (f : Nat) (bb : Bool) (t : ByteArray) (n : Nat) : Bool :=
  (c == 117 || u == 0) && (c == 105 || i == 0) && (c == 102 || f == 0) && (c == 98 || !bb) && (c == 116 || t.size == 0) && (c == 40 || (n : Int) == 0)

set_option maxHeartbeats 4000000 in
theorem zero_u (u i : Int) (f : Nat) (bb : Bool) (t : ByteArray) (ra : Option Addr) (n cap : Nat) (w : World) :
    Calls Tryz.prog 70 #[.agg #[.int .u64 u, .int .i64 i, .float .f64 f, .bool bb, .string t, .slice ra n cap], .int .u8 117] w fun e w' => e = .returned (.bool (zeroV 117 u i f bb t n)) ∧ Below w.heap.size w w' := by
  have hb := w_bits
  have hn := w_not
  go_enter Tryz.func70, Tryz.ntmps70
  go_wp2_with fail
  all_goals (go_ret; refine ⟨?_, (Below.refl _ w).alloc (Nat.le_refl _) _⟩; clear hb hn; simp_all [zeroV, toList_nil])

set_option maxHeartbeats 4000000 in
theorem zero_i (u i : Int) (f : Nat) (bb : Bool) (t : ByteArray) (ra : Option Addr) (n cap : Nat) (w : World) :
    Calls Tryz.prog 70 #[.agg #[.int .u64 u, .int .i64 i, .float .f64 f, .bool bb, .string t, .slice ra n cap], .int .u8 105] w fun e w' => e = .returned (.bool (zeroV 105 u i f bb t n)) ∧ Below w.heap.size w w' := by
  have hb := w_bits
  have hn := w_not
  go_enter Tryz.func70, Tryz.ntmps70
  go_wp2_with fail
  all_goals (go_ret; refine ⟨?_, (Below.refl _ w).alloc (Nat.le_refl _) _⟩; clear hb hn; simp_all [zeroV, toList_nil])

set_option maxHeartbeats 4000000 in
theorem zero_f (u i : Int) (f : Nat) (bb : Bool) (t : ByteArray) (ra : Option Addr) (n cap : Nat) (w : World) :
    Calls Tryz.prog 70 #[.agg #[.int .u64 u, .int .i64 i, .float .f64 f, .bool bb, .string t, .slice ra n cap], .int .u8 102] w fun e w' => e = .returned (.bool (zeroV 102 u i f bb t n)) ∧ Below w.heap.size w w' := by
  have hb := w_bits
  have hn := w_not
  go_enter Tryz.func70, Tryz.ntmps70
  go_wp2_with fail
  all_goals (go_ret; refine ⟨?_, (Below.refl _ w).alloc (Nat.le_refl _) _⟩; clear hb hn; simp_all [zeroV, toList_nil])

set_option maxHeartbeats 4000000 in
theorem zero_b (u i : Int) (f : Nat) (bb : Bool) (t : ByteArray) (ra : Option Addr) (n cap : Nat) (w : World) :
    Calls Tryz.prog 70 #[.agg #[.int .u64 u, .int .i64 i, .float .f64 f, .bool bb, .string t, .slice ra n cap], .int .u8 98] w fun e w' => e = .returned (.bool (zeroV 98 u i f bb t n)) ∧ Below w.heap.size w w' := by
  have hb := w_bits
  have hn := w_not
  go_enter Tryz.func70, Tryz.ntmps70
  go_wp2_with fail
  all_goals (go_ret; refine ⟨?_, (Below.refl _ w).alloc (Nat.le_refl _) _⟩; clear hb hn; simp_all [zeroV, toList_nil])

set_option maxHeartbeats 4000000 in
theorem zero_t (u i : Int) (f : Nat) (bb : Bool) (t : ByteArray) (ra : Option Addr) (n cap : Nat) (w : World) :
    Calls Tryz.prog 70 #[.agg #[.int .u64 u, .int .i64 i, .float .f64 f, .bool bb, .string t, .slice ra n cap], .int .u8 116] w fun e w' => e = .returned (.bool (zeroV 116 u i f bb t n)) ∧ Below w.heap.size w w' := by
  have hb := w_bits
  have hn := w_not
  go_enter Tryz.func70, Tryz.ntmps70
  go_wp2_with fail
  all_goals (go_ret; refine ⟨?_, (Below.refl _ w).alloc (Nat.le_refl _) _⟩; clear hb hn; simp_all [zeroV, toList_nil])

set_option maxHeartbeats 4000000 in
theorem zero_l (u i : Int) (f : Nat) (bb : Bool) (t : ByteArray) (ra : Option Addr) (n cap : Nat) (w : World) :
    Calls Tryz.prog 70 #[.agg #[.int .u64 u, .int .i64 i, .float .f64 f, .bool bb, .string t, .slice ra n cap], .int .u8 40] w fun e w' => e = .returned (.bool (zeroV 40 u i f bb t n)) ∧ Below w.heap.size w w' := by
  have hb := w_bits
  have hn := w_not
  go_enter Tryz.func70, Tryz.ntmps70
  go_wp2_with fail
  all_goals (go_ret; refine ⟨?_, (Below.refl _ w).alloc (Nat.le_refl _) _⟩; clear hb hn; simp_all [zeroV, toList_nil])
theorem sz (s : ByteArray) : s.data.toList.isEmpty = (s.size == 0) := by
  rw [Bool.eq_iff_iff, List.isEmpty_iff_length_eq_zero, Array.length_toList]
  exact (beq_iff_eq (a := s.size) (b := 0)).symm
theorem ln {α : Type} (l : List α) : l.isEmpty = ((l.length : Int) == 0) := by
  rw [Bool.eq_iff_iff, List.isEmpty_iff_length_eq_zero]; simp
theorem un (u : Nat) : (u == 0) = ((u : Int) == 0) := by rw [Bool.eq_iff_iff]; simp
theorem zV_u (u : Nat) (i : Int) (f : Nat) (bb : Bool) (s : ByteArray) (l : List (List Fld)) : zeroV 117 u i f bb s l.length = zeroBut 'u' (.mk u i f bb s.data.toList l) := by
  simp [zeroV, zeroBut, Fld.U, Fld.I, Fld.F, Fld.B, Fld.T, Fld.L, sz, ln, un]
theorem zV_i (u : Nat) (i : Int) (f : Nat) (bb : Bool) (s : ByteArray) (l : List (List Fld)) : zeroV 105 u i f bb s l.length = zeroBut 'i' (.mk u i f bb s.data.toList l) := by
  simp [zeroV, zeroBut, Fld.U, Fld.I, Fld.F, Fld.B, Fld.T, Fld.L, sz, ln, un]
theorem zV_f (u : Nat) (i : Int) (f : Nat) (bb : Bool) (s : ByteArray) (l : List (List Fld)) : zeroV 102 u i f bb s l.length = zeroBut 'f' (.mk u i f bb s.data.toList l) := by
  simp [zeroV, zeroBut, Fld.U, Fld.I, Fld.F, Fld.B, Fld.T, Fld.L, sz, ln, un]
theorem zV_b (u : Nat) (i : Int) (f : Nat) (bb : Bool) (s : ByteArray) (l : List (List Fld)) : zeroV 98 u i f bb s l.length = zeroBut 'b' (.mk u i f bb s.data.toList l) := by
  simp [zeroV, zeroBut, Fld.U, Fld.I, Fld.F, Fld.B, Fld.T, Fld.L, sz, ln, un]
theorem zV_t (u : Nat) (i : Int) (f : Nat) (bb : Bool) (s : ByteArray) (l : List (List Fld)) : zeroV 116 u i f bb s l.length = zeroBut 't' (.mk u i f bb s.data.toList l) := by
  simp [zeroV, zeroBut, Fld.U, Fld.I, Fld.F, Fld.B, Fld.T, Fld.L, sz, ln, un]
theorem zV_l (u : Nat) (i : Int) (f : Nat) (bb : Bool) (s : ByteArray) (l : List (List Fld)) : zeroV 40 u i f bb s l.length = zeroBut 'l' (.mk u i f bb s.data.toList l) := by
  simp [zeroV, zeroBut, Fld.U, Fld.I, Fld.F, Fld.B, Fld.T, Fld.L, sz, ln, un]
/-- The bytes of some fields, or why there are none. -/
def encSays (s : List UInt8) (fs : List Fld) : List UInt8 × Int :=
  match Go.Wq.shape s with
  | none => ([], 40)
  | some its => match encAll its fs with
    | none => ([], 41)
    | some a => if 65536 < a.length then ([], 3) else (a, 0)

theorem shape_sm {s : List UInt8} {l : List It} (h : Go.Wq.shape s = some l) : l.length ≤ 256 ∧ ∀ x ∈ l, x.Sm := by
  unfold Go.Wq.shape at h
  split at h
  · cases h
  · split at h
    · rename_i l' hp
      injection h with h; subst h
      obtain ⟨h1, h2⟩ := parse_sm _ _ _ _ _ hp (by omega)
      exact ⟨by simp at h1; omega, h2⟩
    · cases h

end Go.Proofs.YtidfgjgbigedeaaGreatDoor
end
