/- Sessions: greetings on their way; heard. -/
import Derived.Test.YtippekflhlmgiaaSwN
import Derived.Test.YtippekflhlmgiaaCwA
namespace Go.Sq
/-- A greeting on its way. -/
structure Sd where
  fr : Int
  n : Int
  e : Int
def okB (k p m : Int) (g : Sd) : Bool := (g.fr != k) && (g.n == p && g.e == m)
def heardB (l : List Sd) (k p m : Int) : Bool := l.any (okB k p m)
section
variable {α β : Type} (c : α → List β) (k : Nat) (hk : ∀ x, (c x).length = k)
include hk
theorem flat_drop : ∀ (l : List α) (i : Nat), (l.drop i).flatMap c = (l.flatMap c).drop (i * k)
  | [], i => by simp
  | x :: r, 0 => by simp
  | x :: r, i + 1 => by
    rw [List.drop_succ_cons, List.flatMap_cons, flat_drop r i, Nat.succ_mul, Nat.add_comm (i * k) k, ← List.drop_drop, List.drop_append, hk, Nat.sub_self, List.drop_of_length_le (l := c x) (by rw [hk]; omega), List.drop_zero, List.nil_append]
theorem flat_get (l : List α) (i j : Nat) (hi : i < l.length) (hj : j < k) : (l.flatMap c)[i * k + j]? = (c l[i])[j]? := by
  have hd : (l.flatMap c).drop (i * k) = c l[i] ++ (l.drop (i + 1)).flatMap c := by
    rw [← flat_drop c k hk, List.drop_eq_getElem_cons hi, List.flatMap_cons]
  have h0 : (l.flatMap c)[i * k + j]? = (c l[i] ++ (l.drop (i + 1)).flatMap c)[j]? := by rw [← hd, List.getElem?_drop]
  rw [h0, List.getElem?_append_left (by rw [hk]; exact hj)]
end
end Go.Sq
namespace Go.Proofs.Ytippekflhlmgiaa
open Go.RowKit Go.Lib Go.Sq Go.Cw Go.Ow
set_option linter.unusedVariables false
set_option linter.unusedSimpArgs false
set_option maxRecDepth 100000

def sdC (g : Sd) : List Value := [.int .i64 g.fr, .int .u64 g.n, .int .u64 g.e]
def sdRow (l : List Sd) : List Value := l.flatMap sdC
theorem sdC_len (g : Sd) : (sdC g).length = 3 := rfl
theorem sdC_one (g : Sd) : ∀ v ∈ sdC g, v.oneCell' = true := by
  intro v hv
  simp only [sdC, List.mem_cons, List.not_mem_nil, or_false] at hv
  rcases hv with rfl | rfl | rfl <;> rfl
theorem sdInfo : (Try.prog.info? 55).map (fun i => (i.zero, i.size, i.bytes)) = some (some (.agg #[.int .i64 0, .int .u64 0, .int .u64 0]), 3, 24) := by kernel_rfl
theorem sd_cells {w : World} {b o : Nat} {l : List Sd} (h : w.rangeAt b o (sdRow l)) {i : Nat} (hi : i < l.length) :
    w.cell? ⟨b, o + i * 3, none⟩ = some (.int .i64 l[i].fr) ∧ w.cell? ⟨b, o + i * 3 + 1, none⟩ = some (.int .u64 l[i].n) ∧ w.cell? ⟨b, o + i * 3 + 2, none⟩ = some (.int .u64 l[i].e) := by
  have h0 := fun j (hj : j < 3) => flat_get sdC 3 sdC_len l i j hi hj
  have h1 := fun j v (hj : j < 3) (hv : (sdC l[i])[j]? = some v) => h (i * 3 + j) v ((h0 j hj).trans hv)
  refine ⟨?_, ?_, ?_⟩
  · have := h1 0 _ (by omega) rfl; simpa using this
  · have := h1 1 _ (by omega) rfl; rw [Nat.add_assoc]; exact this
  · have := h1 2 _ (by omega) rfl; rw [Nat.add_assoc]; exact this
/-- A row of greetings, in block r. -/
abbrev Wy (w : World) (r : Nat) (a : Option Addr) (c : Nat) (l : List Sd) : Prop := Rw w r 55 3 (.slice a l.length c) l.length (sdRow l)
theorem Wy.at {w : World} {r : Nat} {a : Option Addr} {c : Nat} {l : List Sd} (h : Wy w r a c l) (hn : 0 < l.length) : ∃ o, a = some ⟨r, o, none⟩ ∧ r < w.heap.size ∧ w.rangeAt r o (sdRow l) := by
  obtain ⟨o, cap, e, -, h1, -, h2, -, -⟩ := Rw.at h hn
  cases e
  exact ⟨o, rfl, h1, h2⟩
/-- One greeting more. -/
theorem sd_app {w : World} {r : Nat} {a : Option Addr} {c : Nat} {l : List Sd} (x n e : Int) (h : Wy w r a c l) (hr : r < w.heap.size) (hf : (l.length + 1) * 24 ≤ 140737488355328) :
    ∃ a' c' W9 r', (∀ ty, (Builtin.append_ #[51, 51] ty #[.slice a l.length c, .slice (some ⟨w.heap.size, 0, none⟩) 1 1]).run Try.prog (w.alloc (.cells #[.int .i64 x, .int .u64 n, .int .u64 e] 55)) = .ok (.slice a' (l ++ [(⟨x, n, e⟩ : Sd)]).length c') W9) ∧ Wy W9 r' a' c' (l ++ [(⟨x, n, e⟩ : Sd)]) ∧ (r' = r ∨ w.heap.size ≤ r') ∧ r' < W9.heap.size ∧ Xr r r w W9 := by
  obtain ⟨W8, hW8⟩ : ∃ W8, W8 = w.alloc (.cells #[.int .i64 x, .int .u64 n, .int .u64 e] 55) := ⟨_, rfl⟩
  rw [← hW8]
  have b8 : Below w.heap.size w W8 := by rw [hW8]; exact gAl _ _
  have r8 : W8.heap[w.heap.size]? = some (.cells (sdC ⟨x, n, e⟩).toArray 55 (0, 0)) := by rw [hW8]; exact heap_alloc_new w _
  have hz8 : W8.heap.size = w.heap.size + 1 := by rw [hW8]; simp
  obtain ⟨v2, Wn, r2, hrun, hrow, hr2, hxr, hoth⟩ := rw_app (P := Try.prog) (vb := w.heap.size) (vs := sdC ⟨x, n, e⟩) Try.underlying51 sdInfo rfl (h.below b8) r8 rfl (sdC_one _) (by omega) (by omega) r
  obtain ⟨a2, c2, rfl⟩ := hrow.slice
  have e1 : (l ++ [(⟨x, n, e⟩ : Sd)]).length = l.length + 1 := by simp
  have e2 : sdRow (l ++ [(⟨x, n, e⟩ : Sd)]) = sdRow l ++ sdC ⟨x, n, e⟩ := by simp [sdRow]
  have hrow2 : Wy Wn r2 a2 c2 (l ++ [(⟨x, n, e⟩ : Sd)]) := by unfold Wy; rw [e1, e2]; exact hrow
  refine ⟨a2, c2, Wn, r2, by rw [e1]; exact hrun, hrow2, by omega, ?_, (Xr.of_below b8).trans hxr (Or.inl rfl)⟩
  obtain ⟨o, -, h1, -⟩ := hrow2.at (by rw [e1]; omega)
  exact h1
theorem S4.xr {w w' : World} {b o p q : Nat} {x : Se} (h : S4 w b o x) (k : Xr p q w w') (hb : b < w.heap.size) (hp : b ≠ p) (hq : b ≠ q) : S4 w' b o x := by
  have e := k.block b hb hp hq
  have c : ∀ o, w'.cell? ⟨b, o, none⟩ = w.cell? ⟨b, o, none⟩ := fun o => World.cell?_of_block e
  have f : ∀ o, w'.frozen? ⟨b, o, none⟩ = w.frozen? ⟨b, o, none⟩ := fun o => by simp only [World.frozen?]; rw [e]
  obtain ⟨a0, a1, a2, a3, a4, a5, a6, a7⟩ := h
  exact ⟨(c _).trans a0, (c _).trans a1, (c _).trans a2, (c _).trans a3, (f _).trans a4, (f _).trans a5, (f _).trans a6, (f _).trans a7⟩
theorem below_dn {B : Nat} (w : World) (n : Nat) : Below B w (w.drewN n) := ⟨rfl, rfl, rfl, Nat.le_refl _, fun _ _ => rfl⟩
set_option maxHeartbeats 8000000 in
theorem heard_any (l : List Sd) (r : Nat) (a : Option Addr) (c : Nat) (k : Int) (x : Se) (w : World) (h : Wy w r a c l) (hl : l.length * 24 ≤ 140737488355328) :
    Calls Try.prog 26 #[.slice a l.length c, .int .i64 k, seV x] w fun e w' => e = .returned (.bool (heardB l k x.p x.m)) ∧ Below w.heap.size w w' := by
  have HW := Lib.hid (fun V (hV : Below w.heap.size w V) => (show Wy V r a c l from h.below hV))
  have HL := Lib.hid hl
  clear h hl
  go_enter Try.func26, Try.ntmps26
  go_wp2_with fail
  go_loopw [7] (fun ii wr => ∃ i : Nat, ii = .int .i64 (i : Int) ∧ i ≤ l.length ∧ heardB (l.take i) k x.p x.m = false ∧ Below w.heap.size w wr ∧ w.heap.size < wr.heap.size ∧ S4 wr w.heap.size 0 x) (fun ii _ => l.length - (RowKit.intOf ii).toNat)
  case atStart => exact ⟨0, rfl, Nat.zero_le _, by simp [heardB], gAl _ _, by simp, S4.first w x⟩
  case round =>
    obtain ⟨i, rfl, hi, hno, hbw, hsz, hs4⟩ := hrel
    obtain ⟨wo, hwo⟩ : ∃ wo, wo = wr := ⟨_, rfl⟩
    subst hwo
    have HB := Lib.hid hbw
    have HS := Lib.hid hs4
    have HNO := Lib.hid hno
    clear hno hs4 hbw
    by_cases hlt : i < l.length
    · have hlti : (i : Int) < (l.length : Int) := by omega
      have hi0 : (0 : Int) ≤ (i : Int) := by omega
      have hiw : IntKind.i64.wrap ((i : Int) + 1) = (i : Int) + 1 := by rw [IntKind.wrap_i64]; have := HL.out; omega
      obtain ⟨o, rfl, hrl, hra⟩ := (HW.out wo HB.out).at (by omega)
      obtain ⟨k0, k1, k2⟩ := sd_cells hra hlt
      have htk : heardB (l.take (i + 1)) k x.p x.m = okB k x.p x.m l[i] := by
        have := HNO.out
        unfold heardB at this ⊢
        rw [List.take_succ_eq_append_getElem hlt, List.any_append, this]
        simp
      have HNX : Hid (okB k x.p x.m l[i] = false → ∀ V, Below w.heap.size w V → w.heap.size < V.heap.size → S4 V w.heap.size 0 x → (∃ i' : Nat, Value.int .i64 ((i : Int) + 1) = .int .i64 (i' : Int) ∧ i' ≤ l.length ∧ heardB (l.take i') k x.p x.m = false ∧ Below w.heap.size w V ∧ w.heap.size < V.heap.size ∧ S4 V w.heap.size 0 x) ∧ l.length - (RowKit.intOf (Value.int .i64 ((i : Int) + 1))).toNat < l.length - (RowKit.intOf (Value.int .i64 (i : Int))).toNat) := Lib.hid (fun h1 V h2 h3 h4 => by
        refine ⟨⟨i + 1, congrArg (Value.int .i64) (by omega), by omega, htk.trans h1, h2, h3, h4⟩, ?_⟩
        show l.length - ((i : Int) + 1).toNat < l.length - (i : Int).toNat
        omega)
      have HYES : Hid (okB k x.p x.m l[i] = true → heardB l k x.p x.m = true) := Lib.hid (fun h1 => List.any_eq_true.2 ⟨_, List.getElem_mem hlt, h1⟩)
      generalize l[i] = g at *
      obtain ⟨fr, n, e⟩ := g
      simp only at k0 k1 k2
      obtain ⟨c0, c1, c2, c3, -⟩ := HS.out
      clear htk hra hlt hi
      cases t1 : (fr != k)
      · have HF : Hid (okB k x.p x.m ⟨fr, n, e⟩ = false) := Lib.hid (by simp only [okB, t1]; rfl)
        go_wp2_with fail
        go_quiet (fail)
        go_wp2_with fail
        exact HNX.out HF.out _ (HB.out.trans (below_dn wo _)) hsz (HS.out)
      · cases t2 : (n == x.p)
        · have HF : Hid (okB k x.p x.m ⟨fr, n, e⟩ = false) := Lib.hid (by simp only [okB, t1, t2]; rfl)
          go_wp2_with fail
          go_quiet (fail)
          go_wp2_with fail
          exact HNX.out HF.out _ (HB.out.trans (below_dn wo _)) hsz (HS.out)
        · cases t3 : (e == x.m)
          · have HF : Hid (okB k x.p x.m ⟨fr, n, e⟩ = false) := Lib.hid (by simp only [okB, t1, t2, t3]; rfl)
            go_wp2_with fail
            go_quiet (fail)
            go_wp2_with fail
            exact HNX.out HF.out _ (HB.out.trans (below_dn wo _)) hsz (HS.out)
          · have HF : Hid (okB k x.p x.m ⟨fr, n, e⟩ = true) := Lib.hid (by simp only [okB, t1, t2, t3]; rfl)
            go_wp2_with fail
            go_quiet (fail)
            go_wp2_with fail
            go_ret
            exact ⟨ret_bool (HYES.out HF.out).symm, HB.out.trans (below_dn wo _)⟩
    · have hni : ¬ (i : Int) < (l.length : Int) := by omega
      have hf : heardB l k x.p x.m = false := by
        have := HNO.out
        rw [List.take_of_length_le (by omega)] at this
        exact this
      have HF := Lib.hid hf
      clear hlt hi hf
      go_wp2_with fail
      go_ret
      exact ⟨ret_bool HF.out.symm, HB.out⟩
end Go.Proofs.Ytippekflhlmgiaa
