/- Graphs: routers in memory; comparing numbers; the search for a router. Graphs: the search for a router. Graphs: is a router there; links in memory; comparing links. Graphs: comparing links. Graphs: the search for a link. Graphs: the link of two. Graphs: where the link of two stands. Graphs: is a link between two routers. -/
import Derived.Test.YtjlfpjjfldbknaaGreatProg
import Derived.Test.YtjlfpjjfldbknaaGreatNqA
import Derived.WalkKit
import Derived.ProofKit
import Derived.Lib.Hide
import Derived.LoopTactic
import Derived.Outline
import Derived.IntWalk
import Derived.Below
import Derived.Laws.Bits64
import Derived.Deep.DeepCutAuto
import Derived.Deep.MidRow
import Derived.Test.YtjlfpjjfldbknaaGreatRtA
section
namespace Go.Proofs.YtjlfpjjfldbknaaGreat
open Go.RowKit Go.Lib Go.Nq
set_option linter.unusedVariables false
set_option linter.unusedSimpArgs false
set_option maxRecDepth 100000

/-- A router's cells. -/
structure NdAt (w : World) (b o : Nat) (n : Nd) : Prop where
  c0 : w.cell? ⟨b, o, none⟩ = some (.int .i64 n.id)
  c1 : w.cell? ⟨b, o + 1, none⟩ = some (.bool n.up)
  c2 : w.cell? ⟨b, o + 2, none⟩ = some (.bool n.mark)
theorem NdAt.kept {w w' : World} {b o : Nat} {n : Nd} (h : NdAt w b o n) (k : w'.heap[b]? = w.heap[b]?) : NdAt w' b o n :=
  ⟨(World.cell?_of_block k).trans h.c0, (World.cell?_of_block k).trans h.c1, (World.cell?_of_block k).trans h.c2⟩
/-- What a []api.Node holds. -/
def NodesIn (w : World) (B : Nat) (l : List Nd) (a : Option Addr) : Prop := l = [] ∨ ∃ b o, a = some ⟨b, o, none⟩ ∧ b < B ∧ ∀ k (h : k < l.length), NdAt w b (o + k * 3) l[k]
theorem NodesIn.kept {w w' : World} {B B' : Nat} {l : List Nd} {a : Option Addr} (h : NodesIn w B l a) (k : ∀ i, i < B → w'.heap[i]? = w.heap[i]?) (hB : B ≤ B') : NodesIn w' B' l a := by
  rcases h with h | ⟨b, o, ha, hb, hc⟩
  · exact Or.inl h
  · exact Or.inr ⟨b, o, ha, Nat.lt_of_lt_of_le hb hB, fun i hi => (hc i hi).kept (k b hb)⟩
theorem NodesIn.at {w : World} {B : Nat} {l : List Nd} {a : Option Addr} (h : NodesIn w B l a) (k : Nat) (hk : k < l.length) : ∃ b o, a = some ⟨b, o, none⟩ ∧ b < B ∧ ∀ k (h : k < l.length), NdAt w b (o + k * 3) l[k] := by
  rcases h with h | h
  · subst h; simp at hk
  · exact h
theorem gAl (W : World) (o : Obj) : Below W.heap.size W (W.alloc o) := (Below.refl _ _).alloc (Nat.le_refl _) _
theorem gNx {W w w' : World} (h : Below W.heap.size W w) (k : Below w.heap.size w w') : Below W.heap.size W w' := h.trans (k.mono h.size)
def cmpI (x y : Int) : Int := if x < y then -1 else if y < x then 1 else 0
theorem gNaN_any (x : Int) (w : World) : Calls Tryz.prog 49 #[.int .i64 x] w fun e w' => e = .returned (.bool false) ∧ w = w' := by
  have hx : (x != x) = false := by simp
  go_enter Tryz.func49, Tryz.ntmps49
  go_wp2_with fail
  go_ret
  exact ⟨rfl, rfl⟩
theorem gCmp_any (x y : Int) (w : World) : Calls Tryz.prog 34 #[.int .i64 x, .int .i64 y] w fun e w' => e = .returned (.int .i64 (cmpI x y)) ∧ w = w' := by
  unfold cmpI
  by_cases h1 : x < y
  · rw [if_pos h1]
    go_enter Tryz.func34, Tryz.ntmps34
    go_wp2_with (go_at_call 49; refine (gNaN_any _ _).mono ?_; rintro e w' ⟨rfl, rfl⟩)
    go_ret
    exact ⟨rfl, rfl⟩
  · rw [if_neg h1]
    by_cases h2 : y < x
    · rw [if_pos h2]
      go_enter Tryz.func34, Tryz.ntmps34
      go_wp2_with (go_at_call 49; refine (gNaN_any _ _).mono ?_; rintro e w' ⟨rfl, rfl⟩)
      go_ret
      exact ⟨rfl, rfl⟩
    · rw [if_neg h2]
      go_enter Tryz.func34, Tryz.ntmps34
      go_wp2_with (go_at_call 49; refine (gNaN_any _ _).mono ?_; rintro e w' ⟨rfl, rfl⟩)
      go_ret
      exact ⟨rfl, rfl⟩
theorem gFind1_any (n : Nd) (x : Int) (w : World) : Calls Tryz.prog 89 #[.agg #[.int .i64 n.id, .bool n.up, .bool n.mark], .int .i64 x] w fun e w' => e = .returned (.int .i64 (cmpI n.id x)) ∧ Below w.heap.size w w' := by
  go_enter Tryz.func89, Tryz.ntmps89
  go_wp2_with (go_at_call 34; refine (gCmp_any _ _ _).mono ?_; rintro e w' ⟨rfl, rfl⟩)
  go_ret
  exact ⟨rfl, gAl _ _⟩
end Go.Proofs.YtjlfpjjfldbknaaGreat
end

section
namespace Go.Proofs.YtjlfpjjfldbknaaGreat
open Go.RowKit Go.Lib Go.Nq
set_option linter.unusedVariables false
set_option linter.unusedSimpArgs false
set_option maxRecDepth 100000

theorem cmp_neg {x y : Int} : cmpI x y < 0 ↔ x < y := by unfold cmpI; split <;> (try split) <;> omega
theorem cmp_zero {x y : Int} : cmpI x y = 0 ↔ x = y := by unfold cmpI; split <;> (try split) <;> omega
set_option maxHeartbeats 4000000 in
theorem gSearch_any (l : List Nd) (a : Option Addr) (c : Nat) (x : Int) (w : World) (hin : NodesIn w w.heap.size l a) (h : NodesP l) (hn : l.length < 4611686018427387904) :
    Calls Tryz.prog 32 #[.slice a l.length c, .int .i64 x, .func (.func 89) #[] #[]] w fun e w' => e = .returned (.tuple #[.int .i64 (Nq.ahead l x : Int), .bool (has l x)]) ∧ Below w.heap.size w w' := by
  have HF := Lib.hid hin
  have HS := Lib.hid (ahead_spec h x)
  have HA := Lib.hid (has_at h x)
  have HN := Lib.hid hn
  clear hin h
  go_enter Tryz.func32, Tryz.ntmps32
  go_wp2_with fail
  go_loopw [9, 10] (fun u v wr => ∃ i j : Nat, u = .int .i64 (i : Int) ∧ v = .int .i64 (j : Int) ∧ i ≤ j ∧ j ≤ l.length ∧ Below w.heap.size w wr ∧ i ≤ Nq.ahead l x ∧ Nq.ahead l x ≤ j) (fun u v _ => (RowKit.intOf v).toNat - (RowKit.intOf u).toNat)
  case atStart => exact ⟨0, l.length, rfl, rfl, Nat.zero_le _, Nat.le_refl _, Below.refl _ _, Nat.zero_le _, HS.out.1⟩
  case round =>
    obtain ⟨i, j, rfl, rfl, hij, hjn, hbel, hia, haj⟩ := hrel
    have HB := Lib.hid hbel
    by_cases hlt : i < j
    · have hlti : (i : Int) < (j : Int) := by omega
      obtain ⟨m, hmid⟩ : ∃ m, (i + j) / 2 = m := ⟨_, rfl⟩
      have hm : m < l.length := by omega
      obtain ⟨b, o, rfl, hb, hc⟩ := (HF.out.kept (fun k hk => hbel.block k hk) hbel.size).at m hm
      have HIN := Lib.hid (HS.out.2 m hm)
      obtain ⟨c0, c1, c2⟩ := hc m hm
      have HC := Lib.hid (fun W => gFind1_any l[m] x W)
      clear hc hbel
      generalize l[m] = nd at *
      have hn1 := HN.out
      have e1 : IntKind.i64.wrap ((i : Int) + (j : Int)) = (i : Int) + (j : Int) := by rw [IntKind.wrap_i64]; omega
      have e2 : IntKind.u64.wrap ((i : Int) + (j : Int)) = (i : Int) + (j : Int) := by rw [IntKind.wrap_u64]; omega
      have e3 : ((i : Int) + (j : Int)) / 2 = (m : Int) := by omega
      have hmi : (m : Int) < (l.length : Int) := by omega
      have hm0 : (0 : Int) ≤ (m : Int) := by omega
      have e4 : IntKind.i64.wrap ((m : Int) + 1) = (m : Int) + 1 := by rw [IntKind.wrap_i64]; omega
      go_upto_region 5 with (fail)
      try rw [e3]
      by_cases hx : nd.id < x
      · have hneg : cmpI nd.id x < 0 := cmp_neg.2 hx
        have HLT := Lib.hid (HIN.out.2 hx)
        go_wp2_with (go_at_call 89; refine (HC.out _).mono ?_; rintro e w' ⟨rfl, hb2⟩; have HB2 := Lib.hid (gNx HB.out hb2); clear hb2)
        refine ⟨⟨m + 1, j, by simp, rfl, by omega, hjn, HB2.out, by have := HLT.out; omega, haj⟩, ?_⟩
        simp [RowKit.intOf]; omega
      · have hneg : ¬ cmpI nd.id x < 0 := fun hh => hx (cmp_neg.1 hh)
        have HGE : Hid (Nq.ahead l x ≤ m) := Lib.hid (by have h1 := HIN.out; by_cases hq : m < Nq.ahead l x; exact absurd (h1.1 hq) hx; omega)
        go_wp2_with (go_at_call 89; refine (HC.out _).mono ?_; rintro e w' ⟨rfl, hb2⟩; have HB2 := Lib.hid (gNx HB.out hb2); clear hb2)
        refine ⟨⟨i, m, rfl, by simp, by omega, by omega, HB2.out, hia, HGE.out⟩, ?_⟩
        simp [RowKit.intOf]; omega
    · have hji : ¬ (i : Int) < (j : Int) := by omega
      have hi : i = Nq.ahead l x := by omega
      by_cases hk : i < l.length
      · have hki : (i : Int) < (l.length : Int) := by omega
        have hk0 : (0 : Int) ≤ (i : Int) := by omega
        obtain ⟨b, o, rfl, hb, hc⟩ := (HF.out.kept (fun k hk => hbel.block k hk) hbel.size).at i hk
        obtain ⟨c0, c1, c2⟩ := hc i hk
        have HC := Lib.hid (fun W => gFind1_any l[i] x W)
        have HR : Hid (has l x = decide (cmpI l[i].id x = 0)) := Lib.hid (by
          have h1 := HA.out
          by_cases hq : l[i].id = x
          · rw [h1.2 ⟨by omega, by simpa only [← hi] using hq⟩]
            simp [cmp_zero.2 hq]
          · have h2 : has l x = false := by
              cases hh : has l x with
              | false => rfl
              | true =>
                obtain ⟨_, h3⟩ := h1.1 hh
                exact absurd (by simpa only [← hi] using h3) hq
            rw [h2]
            symm; simp; exact fun e => hq (cmp_zero.1 e))
        clear hc hbel
        have hv := HR.out
        generalize l[i] = nd at *
        generalize cmpI nd.id x = v at *
        have HI := Lib.hid hi
        clear hi
        by_cases h0 : v = 0
        · subst h0
          go_wp2_with (go_at_call 89; refine (HC.out _).mono ?_; rintro e w' ⟨rfl, hb2⟩; have HB2 := Lib.hid (gNx HB.out hb2); clear hb2)
          refine bodyPost_ret (v := .tuple #[.int .i64 (i : Int), .bool true]) (by simp [results, Tryz.results32, go_sem]) rfl ?_
          exact ⟨by rw [HR.out, HI.out]; simp, HB2.out⟩
        · have hb0 : (v == 0) = false := by simp [h0]
          go_wp2_with (go_at_call 89; refine (HC.out _).mono ?_; rintro e w' ⟨rfl, hb2⟩; have HB2 := Lib.hid (gNx HB.out hb2); clear hb2)
          refine bodyPost_ret (v := .tuple #[.int .i64 (i : Int), .bool false]) (by simp [results, Tryz.results32, go_sem]) rfl ?_
          exact ⟨by rw [HR.out, HI.out]; simp [h0], HB2.out⟩
      · have hki : ¬ (i : Int) < (l.length : Int) := by omega
        have HR : Hid (has l x = false) := Lib.hid (by
          cases hh : has l x with
          | false => rfl
          | true => obtain ⟨h2, _⟩ := HA.out.1 hh; omega)
        have HI := Lib.hid hi
        clear hi hbel
        go_wp2_with fail
        refine bodyPost_ret (v := .tuple #[.int .i64 (i : Int), .bool false]) (by simp [results, Tryz.results32, go_sem]) rfl ?_
        exact ⟨by rw [HR.out, HI.out], HB.out⟩
end Go.Proofs.YtjlfpjjfldbknaaGreat
end

section
namespace Go.Proofs.YtjlfpjjfldbknaaGreat
open Go.RowKit Go.Lib Go.Nq
set_option linter.unusedVariables false
set_option linter.unusedSimpArgs false
set_option maxRecDepth 100000

theorem gFindNode_any (l : List Nd) (a : Option Addr) (c : Nat) (la : Option Addr) (ln lc : Nat) (x : Int) (w : World) (hin : NodesIn w w.heap.size l a) (h : NodesP l) (hn : l.length < 4611686018427387904) :
    Calls Tryz.prog 84 #[.agg #[.slice a l.length c, .slice la ln lc], .int .i64 x] w fun e w' => e = .returned (.tuple #[.int .i64 (Nq.ahead l x : Int), .bool (has l x)]) ∧ Below w.heap.size w w' := by
  have HS := Lib.hid (fun (W : World) (hb : Below w.heap.size w W) => gSearch_any l a c x W (hin.kept (fun i hi => hb.block i hi) hb.size) h hn)
  clear hin h hn
  go_enter Tryz.func84, Tryz.ntmps84
  go_wp2_with (go_at_call 32; refine (HS.out _ (gAl _ _)).mono ?_; rintro e w' ⟨rfl, hb2⟩; have HB2 := Lib.hid (gNx (gAl _ _) hb2); clear hb2)
  refine bodyPost_ret (v := .tuple #[.int .i64 (Nq.ahead l x : Int), .bool (has l x)]) (by simp [results, Tryz.results84, go_sem]) rfl ?_
  exact ⟨rfl, HB2.out⟩
theorem gIsThere_any (l : List Nd) (a : Option Addr) (c : Nat) (la : Option Addr) (ln lc : Nat) (x : Int) (w : World) (hin : NodesIn w w.heap.size l a) (h : NodesP l) (hn : l.length < 4611686018427387904) :
    Calls Tryz.prog 82 #[.agg #[.slice a l.length c, .slice la ln lc], .int .i64 x] w fun e w' => e = .returned (.bool (has l x)) ∧ Below w.heap.size w w' := by
  have HS := Lib.hid (fun (W : World) (hb : Below w.heap.size w W) => gFindNode_any l a c la ln lc x W (hin.kept (fun i hi => hb.block i hi) hb.size) h hn)
  clear hin h hn
  go_enter Tryz.func82, Tryz.ntmps82
  go_wp2_with (go_at_call 84; refine (HS.out _ (gAl _ _)).mono ?_; rintro e w' ⟨rfl, hb2⟩; have HB2 := Lib.hid (gNx (gAl _ _) hb2); clear hb2)
  go_ret
  exact ⟨rfl, HB2.out⟩
/-- A link's cells. -/
structure LkAt (w : World) (b o : Nat) (y : Lk) : Prop where
  c0 : w.cell? ⟨b, o, none⟩ = some (.int .i64 y.a)
  c1 : w.cell? ⟨b, o + 1, none⟩ = some (.int .i64 y.b)
  c2 : w.cell? ⟨b, o + 2, none⟩ = some (.float .f64 y.w)
  c3 : w.cell? ⟨b, o + 3, none⟩ = some (.bool y.up)
theorem LkAt.kept {w w' : World} {b o : Nat} {n : Lk} (h : LkAt w b o n) (k : w'.heap[b]? = w.heap[b]?) : LkAt w' b o n :=
  ⟨(World.cell?_of_block k).trans h.c0, (World.cell?_of_block k).trans h.c1, (World.cell?_of_block k).trans h.c2, (World.cell?_of_block k).trans h.c3⟩
/-- What a []api.Link holds. -/
def LinksIn (w : World) (B : Nat) (l : List Lk) (a : Option Addr) : Prop := l = [] ∨ ∃ b o, a = some ⟨b, o, none⟩ ∧ b < B ∧ ∀ k (h : k < l.length), LkAt w b (o + k * 4) l[k]
theorem LinksIn.kept {w w' : World} {B B' : Nat} {l : List Lk} {a : Option Addr} (h : LinksIn w B l a) (k : ∀ i, i < B → w'.heap[i]? = w.heap[i]?) (hB : B ≤ B') : LinksIn w' B' l a := by
  rcases h with h | ⟨b, o, ha, hb, hc⟩
  · exact Or.inl h
  · exact Or.inr ⟨b, o, ha, Nat.lt_of_lt_of_le hb hB, fun i hi => (hc i hi).kept (k b hb)⟩
theorem LinksIn.at {w : World} {B : Nat} {l : List Lk} {a : Option Addr} (h : LinksIn w B l a) (k : Nat) (hk : k < l.length) : ∃ b o, a = some ⟨b, o, none⟩ ∧ b < B ∧ ∀ k (h : k < l.length), LkAt w b (o + k * 4) l[k] := by
  rcases h with h | h
  · subst h; simp at hk
  · exact h
def cmpL (x y : Lk) : Int := if cmpI x.a y.a ≠ 0 then cmpI x.a y.a else cmpI x.b y.b
theorem cmpL_neg {x y : Lk} : cmpL x y < 0 ↔ before x y = true := by
  unfold cmpL before
  by_cases h : x.a = y.a
  · rw [if_neg (by simp [cmp_zero.2 h]), cmp_neg]
    simp [h]
  · rw [if_pos (fun e => h (cmp_zero.1 e)), cmp_neg]
    simp [h]
end Go.Proofs.YtjlfpjjfldbknaaGreat
end

section
namespace Go.Proofs.YtjlfpjjfldbknaaGreat
open Go.RowKit Go.Lib Go.Nq
set_option linter.unusedVariables false
set_option linter.unusedSimpArgs false
set_option maxRecDepth 100000

theorem gOr_any (x y : Int) (b : Nat) (w : World) (c0 : w.cell? ⟨b, 0, none⟩ = some (.int .i64 x)) (c1 : w.cell? ⟨b, 1, none⟩ = some (.int .i64 y)) :
    Calls Tryz.prog 83 #[.slice (some ⟨b, 0, none⟩) 2 2] w fun e w' => e = .returned (.int .i64 (if x ≠ 0 then x else y)) ∧ w = w' := by
  go_enter Tryz.func83, Tryz.ntmps83
  go_wp2_with fail
  go_loopw [8] (fun v wr => ∃ k : Nat, v = .int .i64 (k : Int) ∧ k ≤ 2 ∧ wr = w ∧ (1 ≤ k → x = 0) ∧ (2 ≤ k → y = 0)) (fun v _ => 2 - (RowKit.intOf v).toNat)
  case atStart => exact ⟨0, rfl, by omega, rfl, fun h => by omega, fun h => by omega⟩
  case round =>
    obtain ⟨k, rfl, hk, rfl, h1, h2⟩ := hrel
    obtain rfl | rfl | rfl : k = 0 ∨ k = 1 ∨ k = 2 := by omega
    · by_cases hx : x = 0
      · subst hx
        clear h1 h2
        go_wp2_with fail
        exact ⟨⟨1, by simp⟩, by simp [RowKit.intOf]⟩
      · have hb : (x != 0) = true := by simp [hx]
        clear h1 h2
        go_wp2_with fail
        go_ret
        exact ⟨by simp [hx], rfl⟩
    · obtain rfl := h1 (by omega)
      by_cases hy : y = 0
      · subst hy
        clear h1 h2
        go_wp2_with fail
        exact ⟨⟨2, by simp⟩, by simp [RowKit.intOf]⟩
      · have hb : (y != 0) = true := by simp [hy]
        clear h1 h2
        go_wp2_with fail
        go_ret
        exact ⟨by simp, rfl⟩
    · obtain rfl := h1 (by omega)
      obtain rfl := h2 (by omega)
      clear h1 h2
      go_wp2_with fail
      go_ret
      exact ⟨by simp, rfl⟩
set_option maxHeartbeats 2000000 in
theorem gCmpL_any (x y : Lk) (w : World) : Calls Tryz.prog 67 #[.agg #[.int .i64 x.a, .int .i64 x.b, .float .f64 x.w, .bool x.up], .agg #[.int .i64 y.a, .int .i64 y.b, .float .f64 y.w, .bool y.up]] w fun e w' => e = .returned (.int .i64 (cmpL x y)) ∧ Below w.heap.size w w' := by
  obtain ⟨W1, hW1⟩ : ∃ W1, W1 = (w.alloc (.cells #[.int .i64 x.a, .int .i64 x.b, .float .f64 x.w, .bool x.up] 62)).alloc (.cells #[.int .i64 y.a, .int .i64 y.b, .float .f64 y.w, .bool y.up] 62) := ⟨_, rfl⟩
  have hb1 : Below w.heap.size w W1 := by rw [hW1]; exact (gAl _ _).alloc (by simp) _
  have hs1 : w.heap.size + 1 < W1.heap.size := by rw [hW1]; simp
  have k0 : W1.cell? ⟨w.heap.size, 0, none⟩ = some (.int .i64 x.a) := by rw [hW1]; simp [go_sem]
  have k1 : W1.cell? ⟨w.heap.size, 1, none⟩ = some (.int .i64 x.b) := by rw [hW1]; simp [go_sem]
  have k2 : W1.cell? ⟨w.heap.size + 1, 0, none⟩ = some (.int .i64 y.a) := by rw [hW1]; simp [go_sem]
  have k3 : W1.cell? ⟨w.heap.size + 1, 1, none⟩ = some (.int .i64 y.b) := by rw [hW1]; simp [go_sem]
  have K0 : ∀ V, Below W1.heap.size W1 V → V.cell? ⟨w.heap.size, 0, none⟩ = some (.int .i64 x.a) := fun V h => (h.cell (p := ⟨w.heap.size, 0, none⟩) (by show w.heap.size < _; omega)).trans k0
  have K1 : ∀ V, Below W1.heap.size W1 V → V.cell? ⟨w.heap.size, 1, none⟩ = some (.int .i64 x.b) := fun V h => (h.cell (p := ⟨w.heap.size, 1, none⟩) (by show w.heap.size < _; omega)).trans k1
  have K2 : ∀ V, Below W1.heap.size W1 V → V.cell? ⟨w.heap.size + 1, 0, none⟩ = some (.int .i64 y.a) := fun V h => (h.cell (p := ⟨w.heap.size + 1, 0, none⟩) hs1).trans k2
  have K3 : ∀ V, Below W1.heap.size W1 V → V.cell? ⟨w.heap.size + 1, 1, none⟩ = some (.int .i64 y.b) := fun V h => (h.cell (p := ⟨w.heap.size + 1, 1, none⟩) hs1).trans k3
  have HB1 := Lib.hid hb1
  have HO := Lib.hid (fun (V : World) (h : Below W1.heap.size W1 V) => gOr_any (cmpI x.a y.a) (cmpI x.b y.b) V.heap.size (V.alloc (.cells #[.int .i64 (cmpI x.a y.a), .int .i64 (cmpI x.b y.b)] 3)) (by simp [go_sem]) (by simp [go_sem]))
  have HA := Lib.hid (fun V => gCmp_any x.a y.a V)
  have HBc := Lib.hid (fun V => gCmp_any x.b y.b V)
  have HE : Hid (cmpL x y = if cmpI x.a y.a ≠ 0 then cmpI x.a y.a else cmpI x.b y.b) := Lib.hid rfl
  clear k0 k1 k2 k3 hb1 hs1
  rw [HE.out]
  generalize cmpI x.a y.a = p at *
  generalize cmpI x.b y.b = q at *
  generalize (if p ≠ 0 then p else q) = r at *
  go_enter Tryz.func67, Tryz.ntmps67
  go_upto_region 1 with (fail)
  rw [← hW1]
  clear hW1 HE
  refine wp_region_held_drew (S := fun V => Below W1.heap.size W1 V) (by kernel_rfl) (Below.drew (Below.refl _ _)) (fun hH => ?_)
  have B0 : Hid (Below W1.heap.size W1 W1.drew) := Lib.hid (Below.drew (Below.refl _ _))
  generalize W1.drew = V0 at *
  refine tk 0 (by assumption) rfl (by kernel_rfl) (fun _ _ _ h => h) (fun V hV => by go_simp; try with_reducible rfl) ?_
  try simp only [Act.put, sqA, sqB, sqC, sqD, sqE, sqF]
  refine tk 1 (by assumption) rfl (by kernel_rfl) (fun _ _ _ h => h) (fun V hV => by have hc := K0 V hV; go_simp; try with_reducible rfl) ?_
  try simp only [Act.put, sqA, sqB, sqC, sqD, sqE, sqF]
  refine tk 2 (by assumption) rfl (by kernel_rfl) (fun _ _ _ h => h) (fun V hV => by go_simp; try with_reducible rfl) ?_
  try simp only [Act.put, sqA, sqB, sqC, sqD, sqE, sqF]
  refine tk 3 (by assumption) rfl (by kernel_rfl) (fun _ _ _ h => h) (fun V hV => by have hc := K2 V hV; go_simp; try with_reducible rfl) ?_
  try simp only [Act.put, sqA, sqB, sqC, sqD, sqE, sqF]
  refine tk 5 (by assumption) rfl (by kernel_rfl) (fun _ _ _ h => h) (fun V hV => by go_simp; try with_reducible rfl) ?_
  try simp only [Act.put, sqA, sqB, sqC, sqD, sqE, sqF]
  refine tk 6 (by assumption) rfl (by kernel_rfl) (fun _ _ _ h => h) (fun V hV => by have hc := K1 V hV; go_simp; try with_reducible rfl) ?_
  try simp only [Act.put, sqA, sqB, sqC, sqD, sqE, sqF]
  refine tk 7 (by assumption) rfl (by kernel_rfl) (fun _ _ _ h => h) (fun V hV => by go_simp; try with_reducible rfl) ?_
  try simp only [Act.put, sqA, sqB, sqC, sqD, sqE, sqF]
  refine tk 8 (by assumption) rfl (by kernel_rfl) (fun _ _ _ h => h) (fun V hV => by have hc := K3 V hV; go_simp; try with_reducible rfl) ?_
  try simp only [Act.put, sqA, sqB, sqC, sqD, sqE, sqF]
  refine wpAnyH_ready (rs := [4]) (by kernel_rfl) (by simp) ?_
  refine AllReadyH.cons (o := _) rfl (fun K hK => ?_) AllReadyH.nil
  go_simp
  refine (HA.out _).mono ?_
  rintro e w' ⟨rfl, rfl⟩
  go_wp2_with fail
  refine hK.out _ _ B0.out (fun hH => ?_)
  clear hK K
  try simp only [Act.put, sqA, sqB, sqC, sqD, sqE, sqF]
  refine wpAnyH_ready (rs := [9]) (by kernel_rfl) (by simp) ?_
  refine AllReadyH.cons (o := _) rfl (fun K hK => ?_) AllReadyH.nil
  go_simp
  refine (HBc.out _).mono ?_
  rintro e w' ⟨rfl, rfl⟩
  go_wp2_with fail
  refine hK.out _ _ B0.out (fun hH => ?_)
  clear hK K
  try simp only [Act.put, sqA, sqB, sqC, sqD, sqE, sqF]
  refine wpAnyH_ready (rs := [10]) (by kernel_rfl) (by simp) ?_
  refine AllReadyH.cons (o := _) rfl (fun K hK => ?_) AllReadyH.nil
  go_simp
  refine hK.out _ _ (gNx B0.out (gAl _ _)) (fun hH => ?_)
  clear hK K
  try simp only [Act.put, sqA, sqB, sqC, sqD, sqE, sqF]
  refine wpAnyH_ready (rs := [11]) (by kernel_rfl) (by simp) ?_
  refine AllReadyH.cons (o := _) rfl (fun K hK => ?_) AllReadyH.nil
  go_simp
  refine (HO.out _ B0.out).mono ?_
  rintro e w' ⟨rfl, rfl⟩
  go_wp2_with fail
  refine hK.out _ _ (gNx B0.out (gAl _ _)) (fun hH => ?_)
  clear hK K
  try simp only [Act.put, sqA, sqB, sqC, sqD, sqE, sqF]
  refine tk 12 (by assumption) rfl (by kernel_rfl) (fun _ _ _ h => h) (fun V hV => by go_simp; try with_reducible rfl) ?_
  try simp only [Act.put, sqA, sqB, sqC, sqD, sqE, sqF]
  refine wpAnyH_done (by kernel_rfl) ?_ _
  go_wp2_with fail
  go_ret
  exact ⟨rfl, gNx HB1.out (gNx B0.out (gAl _ _))⟩
end Go.Proofs.YtjlfpjjfldbknaaGreat
end

section
namespace Go.Proofs.YtjlfpjjfldbknaaGreat
open Go.RowKit Go.Lib Go.Nq
set_option linter.unusedVariables false
set_option linter.unusedSimpArgs false
set_option maxRecDepth 100000

end Go.Proofs.YtjlfpjjfldbknaaGreat
end

section
namespace Go.Proofs.YtjlfpjjfldbknaaGreat
open Go.RowKit Go.Lib Go.Nq
set_option linter.unusedVariables false
set_option linter.unusedSimpArgs false
set_option maxRecDepth 100000

theorem g_storeL (a : Addr) (n : Nat) (m : Mode) (w : World) : (store a (.float .f64 n) m).run Tryz.prog w = stored Tryz.prog w a (.float .f64 n) m := run_store Tryz.prog w a _ m rfl
end Go.Proofs.YtjlfpjjfldbknaaGreat
end

section
namespace Go.Proofs.YtjlfpjjfldbknaaGreat
open Go.RowKit Go.Lib Go.Nq
set_option linter.unusedVariables false
set_option linter.unusedSimpArgs false
set_option maxRecDepth 100000

end Go.Proofs.YtjlfpjjfldbknaaGreat
end

section
namespace Go.Proofs.YtjlfpjjfldbknaaGreat
open Go.RowKit Go.Lib Go.Nq
set_option linter.unusedVariables false
set_option linter.unusedSimpArgs false
set_option maxRecDepth 100000

set_option maxHeartbeats 2000000 in
theorem gBetween_any (ns : List Nd) (na : Option Addr) (nc : Nat) (la : Option Addr) (ln lc : Nat) (y : Lk) (w : World) (hin : NodesIn w w.heap.size ns na) (h : NodesP ns) (hn : ns.length < 4611686018427387904) :
    Calls Tryz.prog 66 #[.agg #[.slice na ns.length nc, .slice la ln lc], .agg #[.int .i64 y.a, .int .i64 y.b, .float .f64 y.w, .bool y.up]] w fun e w' => e = .returned (.bool (decide (y.a < y.b) && has ns y.a && has ns y.b)) ∧ Below w.heap.size w w' := by
  obtain ⟨W1, hW1⟩ : ∃ W1, W1 = (w.alloc (.cells #[.slice na ns.length nc, .slice la ln lc] 25)).alloc (.cells #[.int .i64 y.a, .int .i64 y.b, .float .f64 y.w, .bool y.up] 62) := ⟨_, rfl⟩
  have hb1 : Below w.heap.size w W1 := by rw [hW1]; exact (gAl _ _).alloc (by simp) _
  have hs1 : w.heap.size + 1 < W1.heap.size := by rw [hW1]; simp
  have k1 : W1.cell? ⟨w.heap.size, 0, none⟩ = some (.slice na ns.length nc) ∧ W1.cell? ⟨w.heap.size, 1, none⟩ = some (.slice la ln lc) ∧ W1.cell? ⟨w.heap.size + 1, 0, none⟩ = some (.int .i64 y.a) ∧ W1.cell? ⟨w.heap.size + 1, 1, none⟩ = some (.int .i64 y.b) := by rw [hW1]; exact ⟨by simp [go_sem], by simp [go_sem], by simp [go_sem], by simp [go_sem]⟩
  have KA : ∀ V, Below W1.heap.size W1 V → V.cell? ⟨w.heap.size, 0, none⟩ = some (.slice na ns.length nc) ∧ V.cell? ⟨w.heap.size, 1, none⟩ = some (.slice la ln lc) ∧ V.cell? ⟨w.heap.size + 1, 0, none⟩ = some (.int .i64 y.a) ∧ V.cell? ⟨w.heap.size + 1, 1, none⟩ = some (.int .i64 y.b) := fun V h => ⟨(h.cell (p := ⟨w.heap.size, 0, none⟩) (by show w.heap.size < _; omega)).trans k1.1, (h.cell (p := ⟨w.heap.size, 1, none⟩) (by show w.heap.size < _; omega)).trans k1.2.1, (h.cell (p := ⟨w.heap.size + 1, 0, none⟩) hs1).trans k1.2.2.1, (h.cell (p := ⟨w.heap.size + 1, 1, none⟩) hs1).trans k1.2.2.2⟩
  have HT := Lib.hid (fun (x : Int) (V : World) (hb : Below W1.heap.size W1 V) => gIsThere_any ns na nc la ln lc x V (hin.kept (fun i hi => (gNx hb1 hb).block i hi) (gNx hb1 hb).size) h hn)
  have HB1 := Lib.hid hb1
  have HKA := Lib.hid KA
  obtain ⟨c0, c1, c2, c3⟩ := k1
  clear hin h hn hs1 hb1 KA
  have HTa := Lib.hid (HT.out y.a)
  have HTb := Lib.hid (HT.out y.b)
  clear HT
  generalize has ns y.a = ha at *
  generalize has ns y.b = hb at *
  by_cases hlt : y.a < y.b
  · cases ha with
    | true =>
      go_enter Tryz.func66, Tryz.ntmps66
      go_upto_region 1 with (fail)
      rw [← hW1]
      clear hW1
      go_wp2_with fail
      refine (HTa.out _ (Below.refl _ _)).mono ?_
      rintro e V1 ⟨rfl, hb2⟩
      obtain ⟨d0, d1, d2, d3⟩ := HKA.out V1 hb2
      have B1 := Lib.hid hb2
      clear hb2 c0 c1 c2 c3
      go_wp2_with fail
      refine (HTb.out _ B1.out).mono ?_
      rintro e V2 ⟨rfl, hb2⟩
      have B2 := Lib.hid (gNx B1.out hb2)
      clear hb2
      go_wp2_with fail
      go_ret
      exact ⟨by simp [hlt], gNx HB1.out B2.out⟩
    | false =>
      go_enter Tryz.func66, Tryz.ntmps66
      go_upto_region 1 with (fail)
      rw [← hW1]
      clear hW1
      go_wp2_with fail
      refine (HTa.out _ (Below.refl _ _)).mono ?_
      rintro e V1 ⟨rfl, hb2⟩
      have B1 := Lib.hid hb2
      clear hb2 c0 c1 c2 c3
      go_wp2_with fail
      go_ret
      exact ⟨by simp, gNx HB1.out B1.out⟩
  · go_enter Tryz.func66, Tryz.ntmps66
    go_upto_region 1 with (fail)
    rw [← hW1]
    clear hW1
    go_wp2_with fail
    go_ret
    have hd : decide (y.a < y.b) = false := decide_eq_false (by omega)
    exact ⟨by rw [hd]; simp, HB1.out⟩
end Go.Proofs.YtjlfpjjfldbknaaGreat
end
