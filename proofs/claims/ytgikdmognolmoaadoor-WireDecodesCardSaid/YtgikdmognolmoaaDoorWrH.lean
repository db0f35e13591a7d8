/- The reference's counted and Large: they end. -/
import Derived.Test.YtgikdmognolmoaaDoorWrA
import Derived.Test.YtgikdmognolmoaaDoorWqAll
namespace Go.Proofs.YtgikdmognolmoaaDoor
open Go.RowKit Go.Lib Go.Wq
set_option linter.unusedVariables false
set_option linter.unusedSimpArgs false
set_option maxRecDepth 100000

def CountEnds (w : World) (e : Ending) (w' : World) : Prop := ∃ n : Int, e = .returned (.int .i64 n) ∧ 0 ≤ n ∧ n ≤ 1048577 ∧ w = w'

set_option maxHeartbeats 2000000 in
theorem counted_any (B : Nat) : ∀ (k deep : Nat), deep + k = 65 → ∀ (fs : List Fld) (fa : Option Addr) (fc : Nat) (had : Int) (w : World), fs.length < 4611686018427387904 → FldsIn w B fs fa fs.length → (∀ y ∈ fs, y.Len) → 0 ≤ had → had ≤ 1048577 →
    Calls Tryd.prog 22 #[.slice fa fs.length fc, .int .i64 had, .int .i64 (deep : Int)] w fun e w' => CountEnds w e w' := by
  intro k
  induction k with
  | zero =>
    intro deep hk fs fa fc had w hl hfs hok h0 h1
    obtain rfl : deep = 65 := by omega
    clear hfs hok
    go_enter Tryd.func22, Tryd.ntmps22
    go_wp2_with fail
    go_ret
    exact ⟨_, rfl, by omega, by omega, rfl⟩
  | succ k ih =>
    intro deep hk fs fa fc had w hl hfs hok h0 h1
    have IH := Lib.hid ih
    have HF := Lib.hid hfs
    have HOK := Lib.hid hok
    have hd : ¬ (64 : Int) < (deep : Int) := by omega
    clear ih hfs hok
    go_enter Tryd.func22, Tryd.ntmps22
    go_wp2_with fail
    go_loop [1, 7] (fun h i => ∃ (n : Int) (j : Nat), 0 ≤ n ∧ n ≤ 1048577 ∧ j ≤ fs.length ∧ h = .int .i64 n ∧ i = .int .i64 (j : Int)) (fun _ i => fs.length - (intOf i).toNat)
    case atStart => exact ⟨had, 0, h0, h1, by omega, rfl, rfl⟩
    case round =>
      obtain ⟨n, j, hn0, hn1, hj, rfl, rfl⟩ := hrel
      by_cases hlt : j < fs.length ∧ n ≤ 1048576
      · obtain ⟨hlt, hn⟩ := hlt
        obtain ⟨fb, fo, rfl, hfl⟩ := HF.out.at j hlt
        have HY := Lib.hid (HOK.out _ (List.getElem_mem hlt))
        generalize fs[j] = y at *
        obtain ⟨u, i, f, bb, t, l⟩ := y
        simp only [FldIn] at hfl
        obtain ⟨hfb, c0, c1, c2, c3, ⟨s, hs, c4⟩, ra, rn, rc, c5, hrows⟩ := hfl
        have HR := Lib.hid hrows
        clear hrows hs c0 c1 c2 c3 c4
        have hjl : 0 ≤ (j : Int) ∧ (j : Int) < (fs.length : Int) := by omega
        have hjl2 := hjl.2
        have hjb : (j : Int) < 4611686018427387904 := by omega
        go_wp2_with fail
        go_loop [1, 8] (fun h i => ∃ (n : Int) (q : Nat), 0 ≤ n ∧ n ≤ 1048577 ∧ q ≤ l.length ∧ h = .int .i64 n ∧ i = .int .i64 (q : Int)) (fun _ i => l.length - (intOf i).toNat)
        case atStart => exact ⟨n + 1, 0, by omega, by omega, by omega, by first | go_num | simp, rfl⟩
        case round =>
          obtain ⟨n2, q, hm0, hm1, hq, rfl, rfl⟩ := hrel
          have hrl := HR.out.len
          by_cases hlt2 : q < l.length ∧ n2 ≤ 1048576
          · obtain ⟨hlt2, hn2⟩ := hlt2
            obtain ⟨rb, ro, rfl, hrb, sa, sn, sc, hrc, hfl6⟩ := HR.out.at q hlt2
            obtain rfl := hfl6.len
            have hqq : 0 ≤ (q : Int) ∧ (q : Int) < (rn : Int) := by omega
            have hqq2 := hqq.2
            have hqb : (q : Int) < 4611686018427387904 := by have := HY.out.n; simp only [Fld.L] at this; omega
            have HC : Hid (Calls Tryd.prog 22 #[.slice sa l[q].length sc, .int .i64 (n2 + 1), .int .i64 ((deep : Int) + 1)] w fun e w' => CountEnds w e w') := Lib.hid (by
              have h := IH.out (deep + 1) (by omega) l[q] sa sc (n2 + 1) w (HY.out.r _ (List.getElem_mem hlt2)) hfl6 (HY.out.l _ (List.getElem_mem hlt2)) (by omega) (by omega)
              simp only [Int.natCast_add, Int.natCast_one] at h; exact h)
            generalize l[q] = row at *
            clear hfl6 hrl
            go_wp2_with (go_at_call 22; refine HC.out.mono ?_; rintro e w3 ⟨n3, rfl, hz0, hz1, rfl⟩)
            refine ⟨⟨n3, q + 1, hz0, hz1, by omega, rfl, by simp⟩, ?_⟩
            simp [intOf]; omega
          · have hrl' : (rn : Int) = (l.length : Int) := by omega
            by_cases hq2 : q < l.length
            · have h5 : ¬ n2 ≤ 1048576 := fun h => hlt2 ⟨hq2, h⟩
              have h6 : (q : Int) < (rn : Int) := by omega
              clear hrl
              go_wp2_with fail
              refine ⟨⟨n2, j + 1, hm0, hm1, by omega, rfl, by simp⟩, ?_⟩
              simp [intOf]; omega
            · have h6 : ¬ (q : Int) < (rn : Int) := by omega
              clear hrl
              go_wp2_with fail
              refine ⟨⟨n2, j + 1, hm0, hm1, by omega, rfl, by simp⟩, ?_⟩
              simp [intOf]; omega
      · by_cases hj2 : j < fs.length
        · have h5 : ¬ n ≤ 1048576 := fun h => hlt ⟨hj2, h⟩
          have h6 : (j : Int) < (fs.length : Int) := by omega
          go_wp2_with fail
          go_ret
          exact ⟨_, rfl, hn0, hn1, rfl⟩
        · have h6 : ¬ (j : Int) < (fs.length : Int) := by omega
          go_wp2_with fail
          go_ret
          exact ⟨_, rfl, hn0, hn1, rfl⟩

theorem refLarge_any (B : Nat) (fs : List Fld) (fa : Option Addr) (fc : Nat) (w : World) (hl : fs.length < 4611686018427387904) (hfs : FldsIn w B fs fa fs.length) (hok : ∀ y ∈ fs, y.Len) :
    Calls Tryd.prog 12 #[.slice fa fs.length fc] w fun e w' => (∃ b : Bool, e = .returned (.bool b)) ∧ w = w' := by
  have HC := Lib.hid (counted_any B 65 0 rfl fs fa fc 0 w hl hfs hok (by omega) (by omega))
  clear hfs hok
  go_enter Tryd.func12, Tryd.ntmps12
  go_wp2_with (go_at_call 22; refine HC.out.mono ?_; rintro e w3 ⟨n3, rfl, hz0, hz1, rfl⟩)
  go_ret
  exact ⟨⟨_, rfl⟩, rfl⟩
end Go.Proofs.YtgikdmognolmoaaDoor
