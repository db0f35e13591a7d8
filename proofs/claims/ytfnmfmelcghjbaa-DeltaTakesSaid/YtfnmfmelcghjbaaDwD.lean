/- Deltas, the program: two lists side by side: the iterator. -/
import Derived.Test.YtfnmfmelcghjbaaDwC
import Derived.RangeFuncNested
import Derived.RangeFuncBound
import Derived.RangeFuncCalls
import Derived.RangeFuncLeaves
import Derived.OwnWalkIn
import Derived.TacticsInMore
import Derived.LoopNIn
import Derived.LoopIn
namespace Go.Proofs.Ytfnmfmelcghjbaa
open Go.RowKit Go.Lib Go.Ow Go.Cw Go.Fq Go.Mq Go.Kq Go.Kw Go.Dq
set_option linter.unusedVariables false
set_option linter.unusedSimpArgs false
set_option maxRecDepth 100000

theorem sbs_step {A B : List Nw} (hA : Ls A) (hB : Ls B) (wA : ∀ x ∈ A, x.Fit) (wB : ∀ x ∈ B, x.Fit) (hne : 0 < A.length ∨ 0 < B.length) :
    (fstO A B < 0 ∧ ∃ x A', A = x :: A' ∧ sbs A B = (x, noN) :: sbs A' B) ∨ (0 < fstO A B ∧ ∃ y B', B = y :: B' ∧ sbs A B = (noN, y) :: sbs A B') ∨ (fstO A B = 0 ∧ ∃ x A' y B', A = x :: A' ∧ B = y :: B' ∧ sbs A B = (x, y) :: sbs A' B') := by
  match A, B with
  | [], [] => simp at hne
  | x :: A, [] => exact Or.inl ⟨by simp [fstO], x, A, rfl, by rw [sbs]⟩
  | [], y :: B => exact Or.inr (Or.inl ⟨by simp [fstO], y, B, rfl, by rw [sbs]⟩)
  | x :: A, y :: B =>
    have hx := (wA x (List.mem_cons_self ..)).d
    have hy := (wB y (List.mem_cons_self ..)).d
    have h1 := byD_neg (a := x) (b := y) hx hy
    have h2 := byD_zero (a := x) (b := y) hx hy
    rw [show fstO (x :: A) (y :: B) = byD x y from rfl, sbs]
    by_cases c1 : ky x < ky y
    · exact Or.inl ⟨h1.2 c1, x, A, rfl, by rw [if_pos c1]⟩
    · by_cases c2 : ky y < ky x
      · refine Or.inr (Or.inl ⟨?_, y, B, rfl, by rw [if_neg c1, if_pos c2]⟩)
        have a1 : ¬ byD x y < 0 := fun h => c1 (h1.1 h)
        have a2 : byD x y ≠ 0 := fun h => by have := h2.1 h; omega
        omega
      · exact Or.inr (Or.inr ⟨h2.2 (by omega), x, A, y, B, rfl, rfl, by rw [if_neg c1, if_neg c2]⟩)
theorem addr_add (b o n : Nat) : (⟨b, o, none⟩ : Addr).add n = ⟨b, o + n, none⟩ := by
  unfold Addr.add
  split
  · next h => rw [h]; rfl
  · rfl
theorem cells5 {w : World} {b o : Nat} {n : Nw} (h : w.rangeAt b o (nC n)) : NwAt w b o n := by
  refine ⟨?_, ?_, ?_, ?_, ?_⟩
  · have := h 0 _ rfl; simpa using this
  · exact h 1 _ rfl
  · exact h 2 _ rfl
  · exact h 3 _ rfl
  · exact h 4 _ rfl
theorem sl_drop {w : World} {l : List Nw} {a : Option Addr} {c : Nat} (h : Sl w l a c) (i : Nat) (hi : i ≤ l.length) : Sl w (l.drop i) (if c = i then a else a.map (·.add (i * 5))) (c - i) := by
  have hc := h.cap
  refine ⟨?_, by rw [List.length_drop]; omega, by rw [List.length_drop]; have := h.len; omega⟩
  by_cases e : i = l.length
  · exact Or.inl (by rw [e]; simp)
  · rcases h.rows with h0 | ⟨b, o, rfl, hb, hat⟩
    · subst h0; simp at hi e; omega
    · rw [if_neg (by omega)]
      have := news_right (k := i) hat hb
      rw [Option.map_some, addr_add]
      exact this
/-- What lay below n₀ stays, but for one block. -/
structure Kx (p n₀ : Nat) (A B : World) : Prop where
  os : B.os = A.os
  tape : B.tape = A.tape
  output : B.output = A.output
  size : A.heap.size ≤ B.heap.size
  block : ∀ j, j < n₀ → j ≠ p → B.heap[j]? = A.heap[j]?
theorem Kx.refl (p n₀ : Nat) (A : World) : Kx p n₀ A A := ⟨rfl, rfl, rfl, Nat.le_refl _, fun _ _ _ => rfl⟩
theorem Kx.trans {p n₀ : Nat} {A B C : World} (h : Kx p n₀ A B) (k : Kx p n₀ B C) : Kx p n₀ A C := ⟨k.os.trans h.os, k.tape.trans h.tape, k.output.trans h.output, Nat.le_trans h.size k.size, fun j h1 h2 => (k.block j h1 h2).trans (h.block j h1 h2)⟩
theorem Kx.of {p n₀ : Nat} {A B : World} (h : Below n₀ A B) : Kx p n₀ A B := ⟨h.os, h.tape, h.output, h.size, fun j hj _ => h.block j hj⟩
theorem Kx.cell {p n₀ : Nat} {A B : World} (h : Kx p n₀ A B) {b o : Nat} (hb : b < n₀) (hp : b ≠ p) : B.cell? ⟨b, o, none⟩ = A.cell? ⟨b, o, none⟩ := World.cell?_of_block (h.block b hb hp)
theorem Kx.sets {p n₀ : Nat} {A B : World} (b : Nat) (hb : n₀ ≤ b) (vs : List Value) (o : Nat) (h : Kx p n₀ A B) : Kx p n₀ A (B.setCells b o vs) := h.trans (Kx.of (below_set b hb vs o B (Below.refl _ _)))
theorem Kx.range {p n₀ : Nat} {A B : World} (h : Kx p n₀ A B) {b o : Nat} {cs : List Value} (hb : b < n₀) (hp : b ≠ p) (hr : A.rangeAt b o cs) : B.rangeAt b o cs := fun j v hj => (h.cell hb hp).trans (hr j v hj)
/-- A row that lies below n₀. -/
def LowRow (p n₀ : Nat) (W : World) (l : List Nw) (a : Option Addr) : Prop := l = [] ∨ ∃ b o, a = some ⟨b, o, none⟩ ∧ b < n₀ ∧ b ≠ p ∧ ∀ k (h : k < l.length), NwAt W b (o + k * 5) l[k]
theorem pick_at {l : List Nw} {a : Option Addr} {c i p n₀ : Nat} {W : World} (h : ∀ V, Kx p n₀ W V → Sl V l a c) (hn : n₀ ≤ W.heap.size) {x : Nw} {A : List Nw} (e : l.drop i = x :: A) (hlow : LowRow p n₀ W l a) : i < l.length ∧ A = l.drop (i + 1) ∧ ∃ b o, a = some ⟨b, o, none⟩ ∧ ∀ V, Kx p n₀ W V → V.rangeAt b (o + i * 5) (nC x) := by
  have hi : i < l.length := by
    rcases Nat.lt_or_ge i l.length with h1 | h1
    · exact h1
    · rw [List.drop_eq_nil_of_le h1] at e; cases e
  rw [List.drop_eq_getElem_cons hi] at e
  obtain ⟨rfl, rfl⟩ := List.cons.inj e
  refine ⟨hi, rfl, ?_⟩
  rcases hlow with h0 | ⟨b, o, h1, h2, hp, h3⟩
  · subst h0; simp at hi
  · refine ⟨b, o, h1, fun V hV => ?_⟩
    have g := NwS.range (l := [l[i]]) (b := b) (o := o + i * 5) (w := W) (fun j hj => by
      have : j = 0 := by simp at hj; omega
      subst this
      simpa using h3 i hi)
    exact hV.range h2 hp (by simpa [nRow] using g)
theorem there_set_otherD {w : World} {p x o2 o n : Nat} {vs : List Value} (hne : x ≠ p) (h : w.there x o n) : (w.setCells p o2 vs).there x o n := fun j hj => by
  obtain ⟨h1, h2⟩ := h j hj
  have e := setCells_other p vs o2 w x hne
  constructor
  · rw [World.cell?_of_block e]; exact h1
  · simp only [World.frozen?] at h2 ⊢
    rw [e]; exact h2
theorem range_set_otherD {w : World} {p x o o2 : Nat} {cs vs : List Value} (hne : x ≠ p) (h : w.rangeAt x o cs) : (w.setCells p o2 vs).rangeAt x o cs := fun j v hj => (World.cell?_setCells_out p vs o2 w ⟨x, o + j, none⟩ (fun e _ => absurd e hne)).trans (h j v hj)
def encP (p : Nw × Nw) : Array Value := #[nwV p.1, nwV p.2]
theorem grown_of_below {w w' : World} (h : Below w.heap.size w w') : w.grownBy w' none := ⟨h.os, h.tape, h.output, h.size, fun k hk _ => h.block k hk⟩
set_option maxHeartbeats 8000000 in
theorem sbs1_any (la lb : List Nw) (aa ab : Option Addr) (ca cb : Nat) (n l Ba Bb p n₀ : Nat) (hA : Ls la) (hB : Ls lb) (wA : ∀ x ∈ la, x.Fit) (wB : ∀ x ∈ lb, x.Fit) (J Jx : List (Nw × Nw) → World → Prop) (W : World)
    (hJ : AbidesFrom W.heap.size J) (hY : ∀ pre x W1, J pre W1 → pre.length < (sbs la lb).length → YieldAt Fence.wide (n - 1) Try.prog l (encP x) W1 fun e W' => (e = .returned (.bool true) ∧ J (pre ++ [x]) W' ∧ Kx p n₀ W1 W') ∨ (e = .returned (.bool false) ∧ Jx (pre ++ [x]) W'))
    (hn : n₀ ≤ W.heap.size) (hla : LowRow p n₀ W la aa) (hlb : LowRow p n₀ W lb ab) (ha : ∀ V, Kx p n₀ W V → Sl V la aa ca ∧ V.cell? ⟨Ba, 0, none⟩ = some (.slice aa la.length ca)) (hb : ∀ V, Kx p n₀ W V → Sl V lb ab cb ∧ V.cell? ⟨Bb, 0, none⟩ = some (.slice ab lb.length cb)) (h0 : J [] W) :
    Calls Try.prog 61 #[.func (.yield l) #[] #[], .pointer (some ⟨Ba, 0, none⟩), .pointer (some ⟨Bb, 0, none⟩)] W fun e W' => (∃ v, e = .returned v) ∧ ((∃ xs, xs = sbs la lb ∧ J xs W') ∨ (∃ pre, pre <+: sbs la lb ∧ Jx pre W')) := by
  have HAB := Lib.hid (And.intro ha hb)
  have HJ := Lib.hid hJ
  have HY := Lib.hid hY
  have HLW := Lib.hid (And.intro (And.intro hA hB) (And.intro wA wB))
  have HLL := Lib.hid (And.intro (ha W (Kx.refl _ _ _)).1.len (hb W (Kx.refl _ _ _)).1.len)
  have HCP := Lib.hid (And.intro (ha W (Kx.refl _ _ _)).1.cap (hb W (Kx.refl _ _ _)).1.cap)
  have HN := Lib.hid hn
  obtain ⟨c0a, c0b⟩ := And.intro (ha W (Kx.refl _ _ _)).2 (hb W (Kx.refl _ _ _)).2
  have HLO := Lib.hid (And.intro hla hlb)
  clear ha hb hJ hY hA hB wA wB hn hla hlb
  go_enter Try.func61, Try.ntmps61
  go_wp2_with fail
  go_loopw [4, 5] (fun iv kv wr => ∃ (i k : Nat) (pre : List (Nw × Nw)), iv = .int .i64 (i : Int) ∧ kv = .int .i64 (k : Int) ∧ i ≤ la.length ∧ k ≤ lb.length ∧ sbs la lb = pre ++ sbs (la.drop i) (lb.drop k) ∧ J pre wr ∧ Kx p n₀ W wr) (fun iv kv _ => (la.length - (RowKit.intOf iv).toNat) + (lb.length - (RowKit.intOf kv).toNat))
  case atStart => exact ⟨0, 0, [], rfl, rfl, Nat.zero_le _, Nat.zero_le _, rfl, h0, Kx.refl _ _ _⟩
  case round =>
    obtain ⟨i, k, pre, rfl, rfl, hi, hk, hs, hj, hbel⟩ := hrel
    obtain ⟨wo, hwo⟩ : ∃ wo, wo = wr := ⟨_, rfl⟩
    subst hwo
    have HS := Lib.hid (And.intro hs (And.intro hj hbel))
    obtain ⟨⟨hsa, ca0⟩, ⟨hsb, cb0⟩⟩ := And.intro (HAB.out.1 wo hbel) (HAB.out.2 wo hbel)
    clear hs hj
    by_cases hend : la.length ≤ i ∧ lb.length ≤ k
    · obtain ⟨e1, e2⟩ := hend
      have n1 : ¬ (i : Int) < (la.length : Int) := by omega
      have n2 : ¬ (k : Int) < (lb.length : Int) := by omega
      have HD : Hid (pre = sbs la lb) := Lib.hid (by have := HS.out.1; rw [List.drop_eq_nil_of_le e1, List.drop_eq_nil_of_le e2, sbs, List.append_nil] at this; exact this.symm)
      clear hbel hsa hsb e1 e2
      go_wp2_with fail
      go_end0
      exact ⟨⟨_, rfl⟩, Or.inl (HD.out ▸ HS.out.2.1)⟩
    · have hne : 0 < (la.drop i).length ∨ 0 < (lb.drop k).length := by rw [List.length_drop, List.length_drop]; omega
      have HSS := Lib.hid (sbs_step (A := la.drop i) (B := lb.drop k) ⟨List.Pairwise.sublist (List.drop_sublist _ _) HLW.out.1.1.rise, fun x hx => HLW.out.1.1.some x (List.mem_of_mem_drop hx)⟩ ⟨List.Pairwise.sublist (List.drop_sublist _ _) HLW.out.1.2.rise, fun x hx => HLW.out.1.2.some x (List.mem_of_mem_drop hx)⟩ (fun x hx => HLW.out.2.1 x (List.mem_of_mem_drop hx)) (fun x hx => HLW.out.2.2 x (List.mem_of_mem_drop hx)) hne)
      have HF : Hid (∀ V, Below wo.heap.size wo V → Calls Try.prog 62 #[.slice (if ca = i then aa else aa.map (·.add (i * 5))) (la.length - i) (ca - i), .slice (if cb = k then ab else ab.map (·.add (k * 5))) (lb.length - k) (cb - k)] V fun e w' => e = .returned (.int .i64 (fstO (la.drop i) (lb.drop k))) ∧ Below V.heap.size V w') := Lib.hid (fun V hV => by
        have := dFirst_any (la.drop i) (lb.drop k) _ _ (ca - i) (cb - k) V (sl_drop (hsa.below hV) i hi).rows (sl_drop (hsb.below hV) k hk).rows hne
        rw [List.length_drop, List.length_drop] at this
        exact this)
      have hi0 : (0 : Int) ≤ (i : Int) := by omega
      have hk0 : (0 : Int) ≤ (k : Int) := by omega
      have hii : (i : Int) ≤ (la.length : Int) := by omega
      have hkk : (k : Int) ≤ (lb.length : Int) := by omega
      have HCC : Hid (∀ V, Kx p n₀ W V → V.cell? ⟨Ba, 0, none⟩ = some (.slice aa la.length ca) ∧ V.cell? ⟨Bb, 0, none⟩ = some (.slice ab lb.length cb)) := Lib.hid (fun V hV => ⟨(HAB.out.1 V hV).2, (HAB.out.2 V hV).2⟩)
      obtain ⟨W2, hW2⟩ : ∃ W2, W2 = wo.alloc (nwO noN) := ⟨_, rfl⟩
      obtain ⟨W3, hW3⟩ : ∃ W3, W3 = W2.alloc (nwO noN) := ⟨_, rfl⟩
      have hz2 : W2.heap.size = wo.heap.size + 1 := by rw [hW2, World.size_alloc]
      have hz3 : W3.heap.size = wo.heap.size + 2 := by rw [hW3, World.size_alloc, hz2]
      have hb2 : Below wo.heap.size wo W2 := by rw [hW2]; exact gAl _ _
      have hb3 : Below wo.heap.size wo W3 := by rw [hW3]; exact gNx hb2 (gAl _ _)
      have q2 : W2.there wo.heap.size 0 5 ∧ W2.rangeAt wo.heap.size 0 (nC noN) := by rw [hW2]; exact ⟨there_box wo (nC noN) 63, range_box0 wo (nC noN) 63⟩
      have q3 : W3.there (wo.heap.size + 1) 0 5 ∧ W3.rangeAt (wo.heap.size + 1) 0 (nC noN) := by rw [hW3, ← hz2]; exact ⟨there_box W2 (nC noN) 63, range_box0 W2 (nC noN) 63⟩
      have q4 : W3.there wo.heap.size 0 5 ∧ W3.rangeAt wo.heap.size 0 (nC noN) := by rw [hW3]; exact ⟨there_keepD (gAl W2 _) (by omega) q2.1, below_keepD (gAl W2 _) (by omega) q2.2⟩
      have H3 := Lib.hid (And.intro (And.intro hb3 hz3) (And.intro q3 q4))
      have HNW : Hid (n₀ ≤ wo.heap.size) := Lib.hid (Nat.le_trans HN.out hbel.size)
      have HKA : Hid (∀ V, Below W3.heap.size W3 V → V.cell? ⟨Ba, 0, none⟩ = some (.slice aa la.length ca) ∧ V.cell? ⟨Bb, 0, none⟩ = some (.slice ab lb.length cb)) := Lib.hid (fun V hV => HCC.out V (hbel.trans (Kx.of ((gNx hb3 hV).mono HNW.out))))
      have HF3 : Hid (∀ V, Below W3.heap.size W3 V → Calls Try.prog 62 #[.slice (if ca = i then aa else aa.map (·.add (i * 5))) (la.length - i) (ca - i), .slice (if cb = k then ab else ab.map (·.add (k * 5))) (lb.length - k) (cb - k)] V fun e w' => e = .returned (.int .i64 (fstO (la.drop i) (lb.drop k))) ∧ Below V.heap.size V w') := Lib.hid (fun V hV => HF.out V (gNx hb3 hV))
      have HPA : Hid (∀ x A', la.drop i = x :: A' → i < la.length ∧ A' = la.drop (i + 1) ∧ ∃ b o, aa = some ⟨b, o, none⟩ ∧ ∀ V, Kx p n₀ W V → V.rangeAt b (o + i * 5) (nC x)) := Lib.hid (fun x A' e => pick_at (p := p) (n₀ := n₀) (W := W) (fun V hV => (HAB.out.1 V hV).1) HN.out e HLO.out.1)
      have HPB : Hid (∀ y B', lb.drop k = y :: B' → k < lb.length ∧ B' = lb.drop (k + 1) ∧ ∃ b o, ab = some ⟨b, o, none⟩ ∧ ∀ V, Kx p n₀ W V → V.rangeAt b (o + k * 5) (nC y)) := Lib.hid (fun y B' e => pick_at (p := p) (n₀ := n₀) (W := W) (fun V hV => (HAB.out.2 V hV).1) HN.out e HLO.out.2)
      have HBW : Hid (∀ V, Below W3.heap.size W3 V → Kx p n₀ W V ∧ Below wo.heap.size wo V) := Lib.hid (fun V hV => ⟨hbel.trans (Kx.of ((gNx hb3 hV).mono HNW.out)), gNx hb3 hV⟩)
      clear hsa hsb hbel q2 q3 q4 hz2 hz3 hb2 hb3
      rcases HSS.out with ⟨hz, x, A', eA, eS⟩ | ⟨hz, y, B', eB, eS⟩ | ⟨hz, x, A', y, B', eA, eB, eS⟩
      · obtain ⟨hil, rfl, ba, oa, rfl, hra⟩ := HPA.out x A' eA
        have HNX : Hid (sbs la lb = (pre ++ [(x, noN)]) ++ sbs (la.drop (i + 1)) (lb.drop (k))) := Lib.hid (by have := HS.out.1; rw [eS] at this; rw [this]; simp)
        have HLP : Hid (pre.length < (sbs la lb).length) := Lib.hid (by rw [HNX.out]; simp)
        have HRA : Hid (∀ V, Kx p n₀ W V → V.rangeAt ba (oa + i * 5) (nC x)) := Lib.hid hra
        have HRB : Hid (True) := Lib.hid trivial
        have hil1 : (i : Int) < (la.length : Int) := by omega
        have hiw : IntKind.i64.wrap ((i : Int) + 1) = (i : Int) + 1 := by rw [IntKind.wrap_i64]; have := HLL.out.1; omega
        simp only [Option.map_some, addr_add] at HF3
        obtain ⟨a1, ha1⟩ : ∃ a1, a1 = (if ca = i then some (⟨ba, oa, none⟩ : Addr) else some ⟨ba, oa + i * 5, none⟩) := ⟨_, rfl⟩
        obtain ⟨b1, hb1⟩ : ∃ b1, b1 = (if cb = k then ab else ab.map (·.add (k * 5))) := ⟨_, rfl⟩
        rw [← ha1, ← hb1] at HF3
        have HA1 := Lib.hid (And.intro ha1 hb1)
        clear ha1 hb1
        generalize hfz : fstO (la.drop i) (lb.drop k) = z at *
        clear eA hra eS HSS HF HPA HPB HCC
        have hz1 : z ≤ 0 := by omega
        have hz2 : ¬ (0 : Int) ≤ z := by omega
        go_upto_region 3 with (fail)
        rw [show wo.alloc (.cells #[.int .i64 0, .int .i64 0, .float .f64 0, .float .f64 0, .int .i64 0] 63) = W2 from hW2.symm, show W2.alloc (.cells #[.int .i64 0, .int .i64 0, .float .f64 0, .float .f64 0, .int .i64 0] 63) = W3 from hW3.symm]
        clear hW2 hW3
        refine wp_region_held_drew (S := fun V => Below W3.heap.size W3 V) (by kernel_rfl) (Below.refl _ _).drew (fun hs0 => ?_)
        refine tk 0 (by assumption) rfl (by kernel_rfl) (fun _ _ _ h => h) (fun V hV => by obtain ⟨hx0, hx1⟩ := HKA.out V hV; go_simp; try with_reducible rfl) ?_
        try simp only [Act.put, sqA, sqB, sqC, sqD, sqE, sqF]
        refine tk 1 (by assumption) rfl (by kernel_rfl) (fun _ _ _ h => h) (fun V hV => by go_simp; try with_reducible rfl) ?_
        try simp only [Act.put, sqA, sqB, sqC, sqD, sqE, sqF]
        refine tk 2 (v := .slice a1 (la.length - i) (ca - i)) (by assumption) rfl (by kernel_rfl) (fun _ _ _ h => h) (fun V hV => by go_simp; rw [HA1.out.1]) ?_
        try simp only [Act.put, sqA, sqB, sqC, sqD, sqE, sqF]
        refine tk 3 (by assumption) rfl (by kernel_rfl) (fun _ _ _ h => h) (fun V hV => by obtain ⟨hx0, hx1⟩ := HKA.out V hV; go_simp; try with_reducible rfl) ?_
        try simp only [Act.put, sqA, sqB, sqC, sqD, sqE, sqF]
        refine tk 4 (by assumption) rfl (by kernel_rfl) (fun _ _ _ h => h) (fun V hV => by go_simp; try with_reducible rfl) ?_
        try simp only [Act.put, sqA, sqB, sqC, sqD, sqE, sqF]
        refine tk 5 (v := .slice b1 (lb.length - k) (cb - k)) (by assumption) rfl (by kernel_rfl) (fun _ _ _ h => h) (fun V hV => by go_simp; rw [HA1.out.2]) ?_
        try simp only [Act.put, sqA, sqB, sqC, sqD, sqE, sqF]
        refine wpAnyH_ready (rs := [6]) (by kernel_rfl) (by simp) ?_
        refine AllReadyH.cons (o := _) rfl (fun K hK => ?_) AllReadyH.nil
        go_simp
        refine (HF3.out _ hs0).mono ?_
        rintro e2 V6 ⟨rfl, hb6⟩
        go_wp2_with fail
        refine hK.out _ _ (gNx hs0 hb6) (fun hs0 => ?_)
        clear hK K
        try simp only [Act.put, sqA, sqB, sqC, sqD, sqE, sqF]
        refine tk 7 (by assumption) rfl (by kernel_rfl) (fun _ _ _ h => h) (fun V hV => by go_simp; try with_reducible rfl) ?_
        try simp only [Act.put, sqA, sqB, sqC, sqD, sqE, sqF]
        refine wpAnyH_done (by kernel_rfl) ?_ _
        have HV6 := Lib.hid (And.intro (HBW.out V6 hs0) (And.intro (And.intro (there_keepD hs0 (by have := H3.out.1.2; omega) H3.out.2.1.1) (there_keepD hs0 (by have := H3.out.1.2; omega) H3.out.2.2.1)) (And.intro (below_keepD hs0 (by have := H3.out.1.2; omega) H3.out.2.1.2) (below_keepD hs0 (by have := H3.out.1.2; omega) H3.out.2.2.2))))
        obtain ⟨k0, k1⟩ := HKA.out V6 hs0
        clear hs0
        obtain ⟨c0, c1, c2, c3, c4⟩ := cells5 (HRA.out V6 HV6.out.1.1)
        have HT6 : Hid (V6.there wo.heap.size 0 (nC x).toArray.size) := Lib.hid HV6.out.2.1.2
        have HKB : Hid (∀ V7, (∃ b vs, wo.heap.size ≤ b ∧ V7 = V6.setCells b 0 vs) → Kx p n₀ W V7 ∧ (V7.cell? ⟨Ba, 0, none⟩ = some (.slice (some ⟨ba, oa, none⟩) la.length ca) ∧ V7.cell? ⟨Bb, 0, none⟩ = some (.slice ab lb.length cb))) := Lib.hid (fun V7 ⟨b, vs, hb, e⟩ => by
          have h1 : Kx p n₀ W V7 := by rw [e]; exact Kx.sets b (Nat.le_trans HNW.out hb) vs 0 HV6.out.1.1
          exact ⟨h1, (HAB.out.1 V7 h1).2, (HAB.out.2 V7 h1).2⟩)
        go_upto_region 10 with (refine wpList_store_mid (by rfl) 63 (.tmp 6) (.tmp 31) rfl wo.heap.size 0 (nC x).toArray rfl rfl HT6.out (by kernel_rfl) (all_oneCell_toArray (nC_one x)) ?_; obtain ⟨V7, hV7⟩ : ∃ V7, V7 = V6.setCells wo.heap.size 0 (nC x) := ⟨_, rfl⟩; rw [show (nC x).toArray.toList = nC x from rfl, ← hV7]; have H7 := Lib.hid hV7; have hk7 := HKB.out V7 ⟨wo.heap.size, nC x, Nat.le_refl _, hV7⟩; obtain ⟨k2, k3⟩ := hk7.2; clear hV7 hk7)
        have HL : Hid (V7.rangeAt wo.heap.size 0 (nC x) ∧ V7.rangeAt (wo.heap.size + 1) 0 (nC noN) ∧ Below wo.heap.size wo V7) := Lib.hid ⟨by rw [H7.out]; exact World.rangeAt_setCells_same V6 wo.heap.size 0 (nC x) HT6.out, by rw [H7.out]; exact range_set_otherD (by omega) HV6.out.2.2.1, by rw [H7.out]; exact below_set wo.heap.size (Nat.le_refl _) (nC x) 0 V6 HV6.out.1.2⟩
        clear HT6 HV6 c0 c1 c2 c3 c4 H7
        have hbn : Kx p n₀ W V7 := HS.out.2.2.trans (Kx.of (HL.out.2.2.mono HNW.out))
        have hjv : J pre V7 := HJ.out pre wo V7 none HS.out.2.1 (grown_of_below HL.out.2.2) (fun r e => by cases e)
        obtain ⟨fn, tmps, assign, body, hy, hR⟩ := HY.out pre (x, noN) V7 hjv HLP.out
        simp only [encP] at hy
        obtain ⟨c0, c1, c2, c3, c4⟩ := cells5 HL.out.1
        obtain ⟨d0, d1, d2, d3, d4⟩ := cells5 HL.out.2.1
        have HBN := Lib.hid hbn
        have HR := Lib.hid hR
        clear hbn hjv hR
        refine (wpIn_wide (n := n)).1 ?_
        gi_wp2
        refine ⟨fun h => (by cases h), ?_⟩
        refine HR.out.mono ?_
        rintro e W9 (⟨rfl, hJ9, hk9⟩ | ⟨rfl, hJx9⟩)
        · gi_wp2
          go_wp2_with fail
          exact ⟨⟨i + 1, k, pre ++ [(x, noN)], congrArg (Value.int .i64) (by omega), congrArg (Value.int .i64) (by omega), by omega, by omega, HNX.out, hJ9, HBN.out.trans hk9⟩, by show (la.length - ((i : Int) + 1).toNat) + (lb.length - ((k : Int)).toNat) < (la.length - (i : Int).toNat) + (lb.length - (k : Int).toNat); omega⟩
        · gi_wp2
          go_wp2_with fail
          refine bodyPost_ret (results_none rfl _ _ _) rfl ?_
          exact ⟨⟨_, rfl⟩, Or.inr ⟨pre ++ [(x, noN)], ⟨_, HNX.out.symm⟩, hJx9⟩⟩
      · obtain ⟨hkl, rfl, bb, ob, rfl, hrb⟩ := HPB.out y B' eB
        have HNX : Hid (sbs la lb = (pre ++ [(noN, y)]) ++ sbs (la.drop (i)) (lb.drop (k + 1))) := Lib.hid (by have := HS.out.1; rw [eS] at this; rw [this]; simp)
        have HLP : Hid (pre.length < (sbs la lb).length) := Lib.hid (by rw [HNX.out]; simp)
        have HRA : Hid (True) := Lib.hid trivial
        have HRB : Hid (∀ V, Kx p n₀ W V → V.rangeAt bb (ob + k * 5) (nC y)) := Lib.hid hrb
        have hkl1 : (k : Int) < (lb.length : Int) := by omega
        have hkw : IntKind.i64.wrap ((k : Int) + 1) = (k : Int) + 1 := by rw [IntKind.wrap_i64]; have := HLL.out.2; omega
        simp only [Option.map_some, addr_add] at HF3
        obtain ⟨a1, ha1⟩ : ∃ a1, a1 = (if ca = i then aa else aa.map (·.add (i * 5))) := ⟨_, rfl⟩
        obtain ⟨b1, hb1⟩ : ∃ b1, b1 = (if cb = k then some (⟨bb, ob, none⟩ : Addr) else some ⟨bb, ob + k * 5, none⟩) := ⟨_, rfl⟩
        rw [← ha1, ← hb1] at HF3
        have HA1 := Lib.hid (And.intro ha1 hb1)
        clear ha1 hb1
        generalize hfz : fstO (la.drop i) (lb.drop k) = z at *
        clear eB hrb eS HSS HF HPA HPB HCC
        have hz1 : ¬ z ≤ 0 := by omega
        have hz2 : (0 : Int) ≤ z := by omega
        by_cases hil1 : (i : Int) < (la.length : Int)
        all_goals
          go_upto_region 3 with (fail)
          rw [show wo.alloc (.cells #[.int .i64 0, .int .i64 0, .float .f64 0, .float .f64 0, .int .i64 0] 63) = W2 from hW2.symm, show W2.alloc (.cells #[.int .i64 0, .int .i64 0, .float .f64 0, .float .f64 0, .int .i64 0] 63) = W3 from hW3.symm]
          clear hW2 hW3
          refine wp_region_held_drew (S := fun V => Below W3.heap.size W3 V) (by kernel_rfl) (Below.refl _ _).drew (fun hs0 => ?_)
          refine tk 0 (by assumption) rfl (by kernel_rfl) (fun _ _ _ h => h) (fun V hV => by obtain ⟨hx0, hx1⟩ := HKA.out V hV; go_simp; try with_reducible rfl) ?_
          try simp only [Act.put, sqA, sqB, sqC, sqD, sqE, sqF]
          refine tk 1 (by assumption) rfl (by kernel_rfl) (fun _ _ _ h => h) (fun V hV => by go_simp; try with_reducible rfl) ?_
          try simp only [Act.put, sqA, sqB, sqC, sqD, sqE, sqF]
          refine tk 2 (v := .slice a1 (la.length - i) (ca - i)) (by assumption) rfl (by kernel_rfl) (fun _ _ _ h => h) (fun V hV => by go_simp; rw [HA1.out.1]) ?_
          try simp only [Act.put, sqA, sqB, sqC, sqD, sqE, sqF]
          refine tk 3 (by assumption) rfl (by kernel_rfl) (fun _ _ _ h => h) (fun V hV => by obtain ⟨hx0, hx1⟩ := HKA.out V hV; go_simp; try with_reducible rfl) ?_
          try simp only [Act.put, sqA, sqB, sqC, sqD, sqE, sqF]
          refine tk 4 (by assumption) rfl (by kernel_rfl) (fun _ _ _ h => h) (fun V hV => by go_simp; try with_reducible rfl) ?_
          try simp only [Act.put, sqA, sqB, sqC, sqD, sqE, sqF]
          refine tk 5 (v := .slice b1 (lb.length - k) (cb - k)) (by assumption) rfl (by kernel_rfl) (fun _ _ _ h => h) (fun V hV => by go_simp; rw [HA1.out.2]) ?_
          try simp only [Act.put, sqA, sqB, sqC, sqD, sqE, sqF]
          refine wpAnyH_ready (rs := [6]) (by kernel_rfl) (by simp) ?_
          refine AllReadyH.cons (o := _) rfl (fun K hK => ?_) AllReadyH.nil
          go_simp
          refine (HF3.out _ hs0).mono ?_
          rintro e2 V6 ⟨rfl, hb6⟩
          go_wp2_with fail
          refine hK.out _ _ (gNx hs0 hb6) (fun hs0 => ?_)
          clear hK K
          try simp only [Act.put, sqA, sqB, sqC, sqD, sqE, sqF]
          refine tk 7 (by assumption) rfl (by kernel_rfl) (fun _ _ _ h => h) (fun V hV => by go_simp; try with_reducible rfl) ?_
          try simp only [Act.put, sqA, sqB, sqC, sqD, sqE, sqF]
          refine wpAnyH_done (by kernel_rfl) ?_ _
          have HV6 := Lib.hid (And.intro (HBW.out V6 hs0) (And.intro (And.intro (there_keepD hs0 (by have := H3.out.1.2; omega) H3.out.2.1.1) (there_keepD hs0 (by have := H3.out.1.2; omega) H3.out.2.2.1)) (And.intro (below_keepD hs0 (by have := H3.out.1.2; omega) H3.out.2.1.2) (below_keepD hs0 (by have := H3.out.1.2; omega) H3.out.2.2.2))))
          obtain ⟨k0, k1⟩ := HKA.out V6 hs0
          clear hs0
          obtain ⟨d0, d1, d2, d3, d4⟩ := cells5 (HRB.out V6 HV6.out.1.1)
          have HT6 : Hid (V6.there (wo.heap.size + 1) 0 (nC y).toArray.size) := Lib.hid HV6.out.2.1.1
          have HKB : Hid (∀ V7, (∃ b vs, wo.heap.size ≤ b ∧ V7 = V6.setCells b 0 vs) → Kx p n₀ W V7 ∧ (V7.cell? ⟨Ba, 0, none⟩ = some (.slice aa la.length ca) ∧ V7.cell? ⟨Bb, 0, none⟩ = some (.slice (some ⟨bb, ob, none⟩) lb.length cb))) := Lib.hid (fun V7 ⟨b, vs, hb, e⟩ => by
            have h1 : Kx p n₀ W V7 := by rw [e]; exact Kx.sets b (Nat.le_trans HNW.out hb) vs 0 HV6.out.1.1
            exact ⟨h1, (HAB.out.1 V7 h1).2, (HAB.out.2 V7 h1).2⟩)
          go_upto_region 10 with (refine wpList_store_mid (by rfl) 63 (.tmp 7) (.tmp 39) rfl (wo.heap.size + 1) 0 (nC y).toArray rfl rfl HT6.out (by kernel_rfl) (all_oneCell_toArray (nC_one y)) ?_; obtain ⟨V8, hV8⟩ : ∃ V8, V8 = V6.setCells (wo.heap.size + 1) 0 (nC y) := ⟨_, rfl⟩; rw [show (nC y).toArray.toList = nC y from rfl, ← hV8]; have H8 := Lib.hid hV8; clear hV8)
          have HL : Hid (V8.rangeAt wo.heap.size 0 (nC noN) ∧ V8.rangeAt (wo.heap.size + 1) 0 (nC y) ∧ Below wo.heap.size wo V8) := Lib.hid ⟨by rw [H8.out]; exact range_set_otherD (by omega) HV6.out.2.2.2, by rw [H8.out]; exact World.rangeAt_setCells_same V6 (wo.heap.size + 1) 0 (nC y) HT6.out, by rw [H8.out]; exact below_set (wo.heap.size + 1) (Nat.le_succ _) (nC y) 0 V6 HV6.out.1.2⟩
          clear HT6 HV6 d0 d1 d2 d3 d4 H8
          have hbn : Kx p n₀ W V8 := HS.out.2.2.trans (Kx.of (HL.out.2.2.mono HNW.out))
          have hjv : J pre V8 := HJ.out pre wo V8 none HS.out.2.1 (grown_of_below HL.out.2.2) (fun r e => by cases e)
          obtain ⟨fn, tmps, assign, body, hy, hR⟩ := HY.out pre (noN, y) V8 hjv HLP.out
          simp only [encP] at hy
          obtain ⟨c0, c1, c2, c3, c4⟩ := cells5 HL.out.1
          obtain ⟨d0, d1, d2, d3, d4⟩ := cells5 HL.out.2.1
          have HBN := Lib.hid hbn
          have HR := Lib.hid hR
          clear hbn hjv hR
          refine (wpIn_wide (n := n)).1 ?_
          gi_wp2
          refine ⟨fun h => (by cases h), ?_⟩
          refine HR.out.mono ?_
          rintro e W9 (⟨rfl, hJ9, hk9⟩ | ⟨rfl, hJx9⟩)
          · gi_wp2
            go_wp2_with fail
            exact ⟨⟨i, k + 1, pre ++ [(noN, y)], congrArg (Value.int .i64) (by omega), congrArg (Value.int .i64) (by omega), by omega, by omega, HNX.out, hJ9, HBN.out.trans hk9⟩, by show (la.length - ((i : Int)).toNat) + (lb.length - ((k : Int) + 1).toNat) < (la.length - (i : Int).toNat) + (lb.length - (k : Int).toNat); omega⟩
          · gi_wp2
            go_wp2_with fail
            refine bodyPost_ret (results_none rfl _ _ _) rfl ?_
            exact ⟨⟨_, rfl⟩, Or.inr ⟨pre ++ [(noN, y)], ⟨_, HNX.out.symm⟩, hJx9⟩⟩
      · obtain ⟨hil, rfl, ba, oa, rfl, hra⟩ := HPA.out x A' eA
        obtain ⟨hkl, rfl, bb, ob, rfl, hrb⟩ := HPB.out y B' eB
        have HNX : Hid (sbs la lb = (pre ++ [(x, y)]) ++ sbs (la.drop (i + 1)) (lb.drop (k + 1))) := Lib.hid (by have := HS.out.1; rw [eS] at this; rw [this]; simp)
        have HLP : Hid (pre.length < (sbs la lb).length) := Lib.hid (by rw [HNX.out]; simp)
        have HRA : Hid (∀ V, Kx p n₀ W V → V.rangeAt ba (oa + i * 5) (nC x)) := Lib.hid hra
        have HRB : Hid (∀ V, Kx p n₀ W V → V.rangeAt bb (ob + k * 5) (nC y)) := Lib.hid hrb
        have hil1 : (i : Int) < (la.length : Int) := by omega
        have hiw : IntKind.i64.wrap ((i : Int) + 1) = (i : Int) + 1 := by rw [IntKind.wrap_i64]; have := HLL.out.1; omega
        have hkl1 : (k : Int) < (lb.length : Int) := by omega
        have hkw : IntKind.i64.wrap ((k : Int) + 1) = (k : Int) + 1 := by rw [IntKind.wrap_i64]; have := HLL.out.2; omega
        simp only [Option.map_some, addr_add] at HF3
        obtain ⟨a1, ha1⟩ : ∃ a1, a1 = (if ca = i then some (⟨ba, oa, none⟩ : Addr) else some ⟨ba, oa + i * 5, none⟩) := ⟨_, rfl⟩
        obtain ⟨b1, hb1⟩ : ∃ b1, b1 = (if cb = k then some (⟨bb, ob, none⟩ : Addr) else some ⟨bb, ob + k * 5, none⟩) := ⟨_, rfl⟩
        rw [← ha1, ← hb1] at HF3
        have HA1 := Lib.hid (And.intro ha1 hb1)
        clear ha1 hb1
        generalize hfz : fstO (la.drop i) (lb.drop k) = z at *
        clear eA eB hra hrb eS HSS HF HPA HPB HCC
        subst hz
        go_upto_region 3 with (fail)
        rw [show wo.alloc (.cells #[.int .i64 0, .int .i64 0, .float .f64 0, .float .f64 0, .int .i64 0] 63) = W2 from hW2.symm, show W2.alloc (.cells #[.int .i64 0, .int .i64 0, .float .f64 0, .float .f64 0, .int .i64 0] 63) = W3 from hW3.symm]
        clear hW2 hW3
        refine wp_region_held_drew (S := fun V => Below W3.heap.size W3 V) (by kernel_rfl) (Below.refl _ _).drew (fun hs0 => ?_)
        refine tk 0 (by assumption) rfl (by kernel_rfl) (fun _ _ _ h => h) (fun V hV => by obtain ⟨hx0, hx1⟩ := HKA.out V hV; go_simp; try with_reducible rfl) ?_
        try simp only [Act.put, sqA, sqB, sqC, sqD, sqE, sqF]
        refine tk 1 (by assumption) rfl (by kernel_rfl) (fun _ _ _ h => h) (fun V hV => by go_simp; try with_reducible rfl) ?_
        try simp only [Act.put, sqA, sqB, sqC, sqD, sqE, sqF]
        refine tk 2 (v := .slice a1 (la.length - i) (ca - i)) (by assumption) rfl (by kernel_rfl) (fun _ _ _ h => h) (fun V hV => by go_simp; rw [HA1.out.1]) ?_
        try simp only [Act.put, sqA, sqB, sqC, sqD, sqE, sqF]
        refine tk 3 (by assumption) rfl (by kernel_rfl) (fun _ _ _ h => h) (fun V hV => by obtain ⟨hx0, hx1⟩ := HKA.out V hV; go_simp; try with_reducible rfl) ?_
        try simp only [Act.put, sqA, sqB, sqC, sqD, sqE, sqF]
        refine tk 4 (by assumption) rfl (by kernel_rfl) (fun _ _ _ h => h) (fun V hV => by go_simp; try with_reducible rfl) ?_
        try simp only [Act.put, sqA, sqB, sqC, sqD, sqE, sqF]
        refine tk 5 (v := .slice b1 (lb.length - k) (cb - k)) (by assumption) rfl (by kernel_rfl) (fun _ _ _ h => h) (fun V hV => by go_simp; rw [HA1.out.2]) ?_
        try simp only [Act.put, sqA, sqB, sqC, sqD, sqE, sqF]
        refine wpAnyH_ready (rs := [6]) (by kernel_rfl) (by simp) ?_
        refine AllReadyH.cons (o := _) rfl (fun K hK => ?_) AllReadyH.nil
        go_simp
        refine (HF3.out _ hs0).mono ?_
        rintro e2 V6 ⟨rfl, hb6⟩
        go_wp2_with fail
        refine hK.out _ _ (gNx hs0 hb6) (fun hs0 => ?_)
        clear hK K
        try simp only [Act.put, sqA, sqB, sqC, sqD, sqE, sqF]
        refine tk 7 (by assumption) rfl (by kernel_rfl) (fun _ _ _ h => h) (fun V hV => by go_simp; try with_reducible rfl) ?_
        try simp only [Act.put, sqA, sqB, sqC, sqD, sqE, sqF]
        refine wpAnyH_done (by kernel_rfl) ?_ _
        have HV6 := Lib.hid (And.intro (HBW.out V6 hs0) (And.intro (And.intro (there_keepD hs0 (by have := H3.out.1.2; omega) H3.out.2.1.1) (there_keepD hs0 (by have := H3.out.1.2; omega) H3.out.2.2.1)) (And.intro (below_keepD hs0 (by have := H3.out.1.2; omega) H3.out.2.1.2) (below_keepD hs0 (by have := H3.out.1.2; omega) H3.out.2.2.2))))
        obtain ⟨k0, k1⟩ := HKA.out V6 hs0
        clear hs0
        obtain ⟨c0, c1, c2, c3, c4⟩ := cells5 (HRA.out V6 HV6.out.1.1)
        have HT6 : Hid (V6.there wo.heap.size 0 (nC x).toArray.size) := Lib.hid HV6.out.2.1.2
        have HT7 : Hid (∀ V7, V7 = V6.setCells wo.heap.size 0 (nC x) → V7.there (wo.heap.size + 1) 0 (nC y).toArray.size) := Lib.hid (fun V7 e => by rw [e]; exact there_set_otherD (by omega) HV6.out.2.1.1)
        have HKB : Hid (∀ V7, (∃ b vs, wo.heap.size ≤ b ∧ V7 = V6.setCells b 0 vs) → Kx p n₀ W V7 ∧ (V7.cell? ⟨Ba, 0, none⟩ = some (.slice (some ⟨ba, oa, none⟩) la.length ca) ∧ V7.cell? ⟨Bb, 0, none⟩ = some (.slice (some ⟨bb, ob, none⟩) lb.length cb))) := Lib.hid (fun V7 ⟨b, vs, hb, e⟩ => by
          have h1 : Kx p n₀ W V7 := by rw [e]; exact Kx.sets b (Nat.le_trans HNW.out hb) vs 0 HV6.out.1.1
          exact ⟨h1, (HAB.out.1 V7 h1).2, (HAB.out.2 V7 h1).2⟩)
        go_upto_region 10 with (first | (refine wpList_store_mid (by rfl) 63 (.tmp 6) (.tmp 31) rfl wo.heap.size 0 (nC x).toArray rfl rfl HT6.out (by kernel_rfl) (all_oneCell_toArray (nC_one x)) ?_; obtain ⟨V7, hV7⟩ : ∃ V7, V7 = V6.setCells wo.heap.size 0 (nC x) := ⟨_, rfl⟩; rw [show (nC x).toArray.toList = nC x from rfl, ← hV7]; have H7 := Lib.hid hV7; have hk7 := HKB.out V7 ⟨wo.heap.size, nC x, Nat.le_refl _, hV7⟩; obtain ⟨k2, k3⟩ := hk7.2; clear hV7 hk7; obtain ⟨d0, d1, d2, d3, d4⟩ := cells5 (HRB.out V7 (HKB.out V7 ⟨wo.heap.size, nC x, Nat.le_refl _, H7.out⟩).1)) | (refine wpList_store_mid (by rfl) 63 (.tmp 7) (.tmp 39) rfl (wo.heap.size + 1) 0 (nC y).toArray rfl rfl (HT7.out _ H7.out) (by kernel_rfl) (all_oneCell_toArray (nC_one y)) ?_; obtain ⟨V8, hV8⟩ : ∃ V8, V8 = V7.setCells (wo.heap.size + 1) 0 (nC y) := ⟨_, rfl⟩; rw [show (nC y).toArray.toList = nC y from rfl, ← hV8]; have H8 := Lib.hid hV8; clear hV8))
        have HL : Hid (V8.rangeAt wo.heap.size 0 (nC x) ∧ V8.rangeAt (wo.heap.size + 1) 0 (nC y) ∧ Below wo.heap.size wo V8) := Lib.hid ⟨by rw [H8.out, H7.out]; exact range_set_otherD (by omega) (World.rangeAt_setCells_same V6 wo.heap.size 0 (nC x) HT6.out), by rw [H8.out]; exact World.rangeAt_setCells_same V7 (wo.heap.size + 1) 0 (nC y) (HT7.out _ H7.out), by rw [H8.out, H7.out]; exact below_set (wo.heap.size + 1) (Nat.le_succ _) (nC y) 0 _ (below_set wo.heap.size (Nat.le_refl _) (nC x) 0 V6 HV6.out.1.2)⟩
        clear HT6 HV6 c0 c1 c2 c3 c4 d0 d1 d2 d3 d4 H7 H8 HT7
        have hbn : Kx p n₀ W V8 := HS.out.2.2.trans (Kx.of (HL.out.2.2.mono HNW.out))
        have hjv : J pre V8 := HJ.out pre wo V8 none HS.out.2.1 (grown_of_below HL.out.2.2) (fun r e => by cases e)
        obtain ⟨fn, tmps, assign, body, hy, hR⟩ := HY.out pre (x, y) V8 hjv HLP.out
        simp only [encP] at hy
        obtain ⟨c0, c1, c2, c3, c4⟩ := cells5 HL.out.1
        obtain ⟨d0, d1, d2, d3, d4⟩ := cells5 HL.out.2.1
        have HBN := Lib.hid hbn
        have HR := Lib.hid hR
        clear hbn hjv hR
        refine (wpIn_wide (n := n)).1 ?_
        gi_wp2
        refine ⟨fun h => (by cases h), ?_⟩
        refine HR.out.mono ?_
        rintro e W9 (⟨rfl, hJ9, hk9⟩ | ⟨rfl, hJx9⟩)
        · gi_wp2
          go_wp2_with fail
          exact ⟨⟨i + 1, k + 1, pre ++ [(x, y)], congrArg (Value.int .i64) (by omega), congrArg (Value.int .i64) (by omega), by omega, by omega, HNX.out, hJ9, HBN.out.trans hk9⟩, by show (la.length - ((i : Int) + 1).toNat) + (lb.length - ((k : Int) + 1).toNat) < (la.length - (i : Int).toNat) + (lb.length - (k : Int).toNat); omega⟩
        · gi_wp2
          go_wp2_with fail
          refine bodyPost_ret (results_none rfl _ _ _) rfl ?_
          exact ⟨⟨_, rfl⟩, Or.inr ⟨pre ++ [(x, y)], ⟨_, HNX.out.symm⟩, hJx9⟩⟩
/-- The iterator's contract. -/
theorem sbs_seq (la lb : List Nw) (aa ab : Option Addr) (ca cb : Nat) (n Ba Bb p n₀ : Nat) (hA : Ls la) (hB : Ls lb) (wA : ∀ x ∈ la, x.Fit) (wB : ∀ x ∈ lb, x.Fit) (w : World) (hn : n₀ ≤ w.heap.size) (hla : LowRow p n₀ w la aa) (hlb : LowRow p n₀ w lb ab) (hba : Ba < n₀ ∧ Ba ≠ p) (hbb : Bb < n₀ ∧ Bb ≠ p)
    (hca : la.length ≤ ca ∧ ca ≤ 9223372036854775807) (hcb : lb.length ≤ cb ∧ cb ≤ 9223372036854775807) (hLa : (la.length + 1) * 40 ≤ 140737488355328) (hLb : (lb.length + 1) * 40 ≤ 140737488355328) (c0 : w.cell? ⟨Ba, 0, none⟩ = some (.slice aa la.length ca)) (c1 : w.cell? ⟨Bb, 0, none⟩ = some (.slice ab lb.length cb)) :
    SeqStopsK Fence.wide n Try.prog 61 #[.pointer (some ⟨Ba, 0, none⟩), .pointer (some ⟨Bb, 0, none⟩)] encP (Kx p n₀) (fun xs => xs = sbs la lb) (fun pre => pre <+: sbs la lb) (sbs la lb).length w := by
  intro l J Jx W hW hJ hJx hY h0
  have hk : Kx p n₀ w W := Kx.of (hW.mono hn)
  have low : ∀ (l : List Nw) (a : Option Addr) (c : Nat) (V : World), LowRow p n₀ w l a → Kx p n₀ w V → l.length ≤ c ∧ c ≤ 9223372036854775807 → (l.length + 1) * 40 ≤ 140737488355328 → Sl V l a c := fun l a c V h hv h1 h2 => by
    refine ⟨?_, h1, h2⟩
    rcases h with h | ⟨b, o, e, hb, hp, hat⟩
    · exact Or.inl h
    · exact Or.inr ⟨b, o, e, by have := hv.size; omega, fun k hk => (hat k hk).kept (hv.block b hb hp)⟩
  have mv : ∀ (l : List Nw) (a : Option Addr), LowRow p n₀ w l a → LowRow p n₀ W l a := fun l a h => by
    rcases h with h | ⟨b, o, e, hb, hp, hat⟩
    · exact Or.inl h
    · exact Or.inr ⟨b, o, e, hb, hp, fun k hk2 => (hat k hk2).kept (hk.block b hb hp)⟩
  exact callsIn_wide.2 (sbs1_any la lb aa ab ca cb n l Ba Bb p n₀ hA hB wA wB J Jx W hJ hY (Nat.le_trans hn hW.size) (mv _ _ hla) (mv _ _ hlb)
    (fun V hV => ⟨low la aa ca V hla (hk.trans hV) hca hLa, ((hk.trans hV).cell hba.1 hba.2).trans c0⟩) (fun V hV => ⟨low lb ab cb V hlb (hk.trans hV) hcb hLb, ((hk.trans hV).cell hbb.1 hbb.2).trans c1⟩) h0)
end Go.Proofs.Ytfnmfmelcghjbaa
