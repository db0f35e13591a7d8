/- Graphs: is a router there; links in memory; comparing links. -/
import Derived.Test.YtomcnaghdfhkkaaNgB
namespace Go.Proofs.Ytomcnaghdfhkkaa
open Go.RowKit Go.Lib Go.Nq
set_option linter.unusedVariables false
set_option linter.unusedSimpArgs false
set_option maxRecDepth 100000

theorem gFindNode_any (l : List Nd) (a : Option Addr) (c : Nat) (la : Option Addr) (ln lc : Nat) (x : Int) (w : World) (hin : NodesIn w w.heap.size l a) (h : NodesP l) (hn : l.length < 4611686018427387904) :
    Calls Try.prog 98 #[.agg #[.slice a l.length c, .slice la ln lc], .int .i64 x] w fun e w' => e = .returned (.tuple #[.int .i64 (Nq.ahead l x : Int), .bool (has l x)]) ∧ Below w.heap.size w w' := by
  have HS := Lib.hid (fun (W : World) (hb : Below w.heap.size w W) => gSearch_any l a c x W (hin.kept (fun i hi => hb.block i hi) hb.size) h hn)
  clear hin h hn
  go_enter Try.func98, Try.ntmps98
  go_wp2_with (go_at_call 60; refine (HS.out _ (gAl _ _)).mono ?_; rintro e w' ⟨rfl, hb2⟩; have HB2 := Lib.hid (gNx (gAl _ _) hb2); clear hb2)
  refine bodyPost_ret (v := .tuple #[.int .i64 (Nq.ahead l x : Int), .bool (has l x)]) (by simp [results, Try.results98, go_sem]) rfl ?_
  exact ⟨rfl, HB2.out⟩
theorem gIsThere_any (l : List Nd) (a : Option Addr) (c : Nat) (la : Option Addr) (ln lc : Nat) (x : Int) (w : World) (hin : NodesIn w w.heap.size l a) (h : NodesP l) (hn : l.length < 4611686018427387904) :
    Calls Try.prog 96 #[.agg #[.slice a l.length c, .slice la ln lc], .int .i64 x] w fun e w' => e = .returned (.bool (has l x)) ∧ Below w.heap.size w w' := by
  have HS := Lib.hid (fun (W : World) (hb : Below w.heap.size w W) => gFindNode_any l a c la ln lc x W (hin.kept (fun i hi => hb.block i hi) hb.size) h hn)
  clear hin h hn
  go_enter Try.func96, Try.ntmps96
  go_wp2_with (go_at_call 98; refine (HS.out _ (gAl _ _)).mono ?_; rintro e w' ⟨rfl, hb2⟩; have HB2 := Lib.hid (gNx (gAl _ _) hb2); clear hb2)
  go_ret
  exact ⟨rfl, HB2.out⟩
/-- A link's cells. -/
structure LkAt (w : World) (b o : Nat) (y : Lk) : Prop where
  c0 : w.cell? ⟨b, o, none⟩ = some (.int .i64 y.a)
  c1 : w.cell? ⟨b, o + 1, none⟩ = some (.int .i64 y.b)
  c2 : w.cell? ⟨b, o + 2, none⟩ = some (.float .f64 y.w)
  c3 : w.cell? ⟨b, o + 3, none⟩ = some (.bool y.up)
theorem LkAt.kept {w w' : World} {b o : Nat} {n : Lk} (h : LkAt w b o n) (k : w'.heap[b]? = w.heap[b]?) : LkAt w' b o n :=
  ⟨(World.cell?_of_block k).trans h.c0, (World.cell?_of_block k).trans h.c1, (World.cell?_of_block k).trans h.c2, (World.cell?_of_block k).trans h.c3⟩
/-- What a []api.Link holds. -/
def LinksIn (w : World) (B : Nat) (l : List Lk) (a : Option Addr) : Prop := l = [] ∨ ∃ b o, a = some ⟨b, o, none⟩ ∧ b < B ∧ ∀ k (h : k < l.length), LkAt w b (o + k * 4) l[k]
theorem LinksIn.kept {w w' : World} {B B' : Nat} {l : List Lk} {a : Option Addr} (h : LinksIn w B l a) (k : ∀ i, i < B → w'.heap[i]? = w.heap[i]?) (hB : B ≤ B') : LinksIn w' B' l a := by
  rcases h with h | ⟨b, o, ha, hb, hc⟩
  · exact Or.inl h
  · exact Or.inr ⟨b, o, ha, Nat.lt_of_lt_of_le hb hB, fun i hi => (hc i hi).kept (k b hb)⟩
theorem LinksIn.at {w : World} {B : Nat} {l : List Lk} {a : Option Addr} (h : LinksIn w B l a) (k : Nat) (hk : k < l.length) : ∃ b o, a = some ⟨b, o, none⟩ ∧ b < B ∧ ∀ k (h : k < l.length), LkAt w b (o + k * 4) l[k] := by
  rcases h with h | h
  · subst h; simp at hk
  · exact h
def cmpL (x y : Lk) : Int := if cmpI x.a y.a ≠ 0 then cmpI x.a y.a else cmpI x.b y.b
theorem cmpL_neg {x y : Lk} : cmpL x y < 0 ↔ before x y = true := by
  unfold cmpL before
  by_cases h : x.a = y.a
  · rw [if_neg (by simp [cmp_zero.2 h]), cmp_neg]
    simp [h]
  · rw [if_pos (fun e => h (cmp_zero.1 e)), cmp_neg]
    simp [h]
theorem cmpL_zero {x y : Lk} : cmpL x y = 0 ↔ x.a = y.a ∧ x.b = y.b := by
  unfold cmpL
  by_cases h : x.a = y.a
  · rw [if_neg (by simp [cmp_zero.2 h]), cmp_zero]
    simp [h]
  · rw [if_pos (fun e => h (cmp_zero.1 e)), cmp_zero]
    simp [h]
end Go.Proofs.Ytomcnaghdfhkkaa
