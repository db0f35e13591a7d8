/- The document's own reader: float. -/
import Derived.Test.YtgikdmognolmoaaDoorWsA
namespace Go.Proofs.YtgikdmognolmoaaDoor
open Go.RowKit Go.Lib Go.Wq
set_option linter.unusedVariables false
set_option linter.unusedSimpArgs false
set_option maxRecDepth 100000

theorem x_fromB (b : Int) (w : World) : (callFunc 60 #[.int .u64 b]).run Tryd.prog w = .ok (.value (.float .f64 b.toNat)) w := by
  rw [run_callFunc_extern Tryd.func60 (by kernel_rfl) (by kernel_rfl) (by kernel_rfl) (e := Extern.MathFloatBits.float64frombits) (by kernel_rfl)]; rfl

/-- How reading eight bytes ends. -/
def FloatEnds (s : ByteArray) (p : Nat) (w : World) (e : Ending) (w' : World) : Prop :=
  Below w.heap.size w w' ∧ if s.size < p + 8 then ∃ a : Nat, e = .returned (.tuple #[rdV s a 42 p, .float .f64 0])
    else e = .returned (.tuple #[rdV s ((p + 8 : Nat) : Int) 0 0, .float .f64 (numOf ((s.data.toList.drop p).take 8) 0)])

set_option maxHeartbeats 2000000 in
theorem float_any (s : ByteArray) (p : Nat) (hs : s.size ≤ 9223372036854775807) (hp : p ≤ s.size) (w : World) :
    Calls Tryd.prog 49 #[rdV s (p : Int) 0 0] w (FloatEnds s p w) := by
  have hsub : IntKind.i64.wrap ((s.size : Int) - (p : Int)) = (s.size : Int) - (p : Int) := by go_arith
  by_cases hlt : s.size < p + 8
  · have hd : decide ((s.size : Int) - (p : Int) < 8) = true := decide_eq_true (by omega)
    have hF : ∀ (a : Nat) (w' : World), Below w.heap.size w w' → FloatEnds s p w (.returned (.tuple #[rdV s a 42 p, .float .f64 0])) w' := fun a w' hb => ⟨hb, by rw [if_pos hlt]; exact ⟨a, rfl⟩⟩
    have HF := Lib.hid hF
    clear hF
    have b0 := Lib.hid (below_2 w (.cells #[.string s, .int .i64 (p : Int), .int .i64 0, .int .i64 0] 46) (.cells #[.string ⟨#[]⟩, .int .i64 0, .int .i64 0, .int .i64 0] 46))
    have HR2 := Lib.hid (R4.first (w.alloc (.cells #[.string s, .int .i64 (p : Int), .int .i64 0, .int .i64 0] 46)) ⟨#[]⟩ 0 0 0 46)
    simp only [World.size_alloc] at HR2
    go_enter Tryd.func49, Tryd.ntmps49
    go_wp2_with fail
    refine (no_any _ _ _ _ _ _ _).mono ?_
    rintro e w2 ⟨rfl, h2⟩
    obtain ⟨d0, d1, d2, d3, g0, g1, g2, g3⟩ := HR2.out.below h2 (by simp)
    go_wp2_with fail
    (try simp only [Exit.inBlock, Exit.then])
    refine bodyPost_ret (v := .tuple #[rdV s (p : Int) 42 (p : Int), .float .f64 0]) (by simp [results, Tryd.results49, go_sem, d0, d1, d2, d3]) rfl ?_
    exact HF.out p _ (set4B (b0.out.trans (h2.mono (by simp; omega))) _ (by omega) _ _ _ _)
  · have hd : decide ((s.size : Int) - (p : Int) < 8) = false := decide_eq_false (by omega)
    have hF : ∀ (w' : World), Below w.heap.size w w' → FloatEnds s p w (.returned (.tuple #[rdV s ((p : Int) + 8) 0 0, .float .f64 (numOf ((s.data.toList.drop p).take 8) 0)])) w' := fun w' hb => ⟨hb, by rw [if_neg hlt]; exact rfl⟩
    have HF := Lib.hid hF
    have hl : s.data.toList.length = s.size := Array.length_toList
    clear hF
    have x_fromB := x_fromB
    go_enter Tryd.func49, Tryd.ntmps49
    go_wp2_with fail
    go_loop [4, 5] (fun v i => ∃ j : Nat, j ≤ 8 ∧ i = .int .i64 j ∧ v = .int .u64 ((numOf ((s.data.toList.drop p).take j) 0 : Nat) : Int)) (fun _ i => 8 - (intOf i).toNat)
    case atStart => exact ⟨0, by omega, rfl, rfl⟩
    case round =>
      obtain ⟨j, hj, rfl, rfl⟩ := hrel
      by_cases hj8 : j < 8
      · have hpj : p + j < s.data.toList.length := by omega
        obtain ⟨n1, n2⟩ := num_next s.data.toList p j hpj hj8
        obtain ⟨C, hC⟩ : ∃ C : Nat, ((s.data.toList[p + j]'hpj).toNat : Int) = (C : Int) := ⟨_, rfl⟩
        have hCn : (s.data.toList[p + j]'hpj).toNat = C := by exact_mod_cast hC
        have hC2 : ((s[p + j]'(by omega)).toNat : Int) = (C : Int) := hC
        have hC256 : C < 256 := by rw [← hCn]; exact (s.data.toList[p + j]'hpj).toNat_lt
        rw [hCn] at n1
        have g1 := shl8 _ n2
        have g2 := byte_or _ C n2 hC256
        have HN := Lib.hid n1
        generalize numOf ((s.data.toList.drop p).take j) 0 = n at *
        obtain ⟨S, hS⟩ : ∃ S, n * 256 = S := ⟨_, rfl⟩
        rw [hS] at g1 g2
        obtain ⟨T, hT⟩ : ∃ T, S + C = T := ⟨_, rfl⟩
        rw [hT] at g2
        have hw : IntKind.u64.wrap (C : Int) = (C : Int) := by rw [IntKind.wrap_u64]; omega
        have hadd : IntKind.i64.wrap ((p : Int) + (j : Int)) = (p : Int) + (j : Int) := by go_arith
        have hlt2 : p + j < s.size := by omega
        have HT := Lib.hid (show numOf ((s.data.toList.drop p).take (j + 1)) 0 = T by rw [HN.out, hS, hT])
        clear n1 n2 hS hT hC hCn
        go_wp2_with fail
        exact ⟨⟨j + 1, by omega, by go_num, by rw [HT.out]⟩, by simp [intOf]; omega⟩
      · obtain rfl : j = 8 := by omega
        generalize numOf ((s.data.toList.drop p).take 8) 0 = n at *
        go_wp2_with fail
        go_region_with (fail)
        all_goals go_wp2_with fail
        all_goals
          (try simp only [Exit.inBlock, Exit.then])
          refine bodyPost_ret (v := .tuple #[rdV s ((p : Int) + 8) 0 0, .float .f64 n]) (by simp [results, Tryd.results49, go_sem]) rfl ?_
          exact HF.out _ (below_2 _ _ _).drew
end Go.Proofs.YtgikdmognolmoaaDoor
