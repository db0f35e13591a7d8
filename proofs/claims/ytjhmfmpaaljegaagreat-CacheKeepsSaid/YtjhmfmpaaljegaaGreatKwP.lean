/- Caches, the laws: a call on both. -/
import Derived.Test.YtjhmfmpaaljegaaGreatKwN
import Derived.Test.YtjhmfmpaaljegaaGreatKwO
namespace Go.Proofs.YtjhmfmpaaljegaaGreat
open Go.RowKit Go.Lib Go.Ow Go.Cw Go.Fq Go.Mq Go.Kq Go.Kw
set_option linter.unusedVariables false
set_option linter.unusedSimpArgs false
set_option maxRecDepth 100000

/-- A cache, and what the document has of it. -/
structure Bo (B : Nat) (S T U : Nat → Prop) (w : World) (c mb : Nat) (N : List (Hd × Nat)) (l : List Hv) (a : Option Addr) : Prop where
  cb : Cb S T w c mb N
  eq : plain N = hds l
  hd : HdIn U w l a
  ap : ∀ b, U b → ¬ S b
  lo : ∀ b, S b → B ≤ b
def Bx (B : Nat) (w : World) (c : Nat) (l : List Hv) (a : Option Addr) : Prop := ∃ S T U mb N, Bo B S T U w c mb N l a
theorem HdIn.lt {S : Nat → Prop} {w : World} {l : List Hv} {a : Option Addr} (h : HdIn S w l a) : HdIn (fun b => S b ∧ b < w.heap.size) w l a := by
  refine ⟨fun p hp => ?_, ?_⟩
  · obtain ⟨na, nc, e, hn⟩ := h.ls p hp
    exact ⟨na, nc, e, hn.lt⟩
  · rcases h.row with h | ⟨b, o, h1, h2, h3, h4⟩
    · exact Or.inl h
    · exact Or.inr ⟨b, o, h1, ⟨h2, h3⟩, h3, h4⟩
theorem Bo.below {B : Nat} {S T U : Nat → Prop} {w w2 : World} {c mb : Nat} {N : List (Hd × Nat)} {l : List Hv} {a : Option Addr} (h : Bo B S T U w c mb N l a) (hb : Below w.heap.size w w2) : Bo B S T U w2 c mb N l a := ⟨h.cb.below hb, h.eq, h.hd.below hb, h.ap, h.lo⟩
theorem Bo.step {B : Nat} {S T U : Nat → Prop} {w w2 w3 : World} {c mb : Nat} {N : List (Hd × Nat)} {l l' : List Hv} {a a' : Option Addr} {M' : List Hd} (h : Bo B S T U w c mb N l a) (hb : Below w.heap.size w w2) (hd : HdIn (fun b => U b ∨ w.heap.size ≤ b) w2 l' a')
    (hp : Pst (fun b => S b ∧ b < w.heap.size) (fun b => T b ∧ b < w.heap.size) w2 w3 c M') (hM : M' = hds l') (hB : B ≤ w.heap.size) : Bx B w3 c l' a' ∧ Below B w w3 := by
  obtain ⟨hx, S', T', mb', N', hpl, hcb, hS, hT⟩ := hp
  have hs := hb.size
  refine ⟨⟨S', T', (fun b => (U b ∨ w.heap.size ≤ b) ∧ b < w2.heap.size), mb', N', hcb, hpl.trans hM, hd.lt.kept (fun b hb1 hb2 => hx.block b hb2 (fun hs2 => ?_)) hx.size, fun b hb1 hb2 => ?_, fun b hb1 => ?_⟩, (hb.mono hB).trans (hx.below (fun j hj => h.lo j hj.1) (by omega))⟩
  · rcases hb1.1 with e | e
    · exact h.ap b e hs2.1
    · have := hs2.2; omega
  · rcases hS b hb2 with e | e
    · rcases hb1.1 with e2 | e2
      · exact h.ap b e2 e.1
      · have := e.2; omega
    · have := hb1.2; omega
  · rcases hS b hb1 with e | e
    · exact h.lo b e.1
    · omega
/-- A call of the laws. -/
structure Ac where
  op : Int
  id : Int
  wt : Nat
  news : List Nw
structure AcOk (w : World) (x : Ac) (na : Option Addr) : Prop where
  op : -9223372036854775808 ≤ x.op ∧ x.op ≤ 9223372036854775807
  id : -9223372036854775808 ≤ x.id ∧ x.id < 9223372036854775808
  wt : x.wt < 2 ^ 64
  news : NewsIn w w.heap.size x.news na
  fit : ∀ y ∈ x.news, y.Fit
  len : (x.news.length + 1) * 40 ≤ 140737488355328
/-- What a call on both tells. -/
def DoesRet (B : Nat) (w : World) (c : Nat) (M : List Hd) (e : Ending) (w' : World) : Prop := ∃ (l : List Hv) (a : Option Addr) (k : Nat), hds l = M ∧ e = .returned (.tuple #[.slice a l.length k, .bool true]) ∧ Bx B w' c l a ∧ Below B w w'
set_option maxHeartbeats 8000000 in
theorem dMark_any (k : Int) (f : Nat) (w : World) : Calls Tryz.prog 32 #[.int .i64 k, .float .f64 f] w fun e w' => ∃ a, e = .returned (.slice a 1 1) ∧ Below w.heap.size w w' ∧ NewsIn w' w'.heap.size [⟨k, 1, f, 0, 0⟩] a := by
  go_enter Tryz.func32, Tryz.ntmps32
  go_wp2_with fail
  refine bodyPost_ret (v := .slice (some ⟨w.heap.size, 0, none⟩) 1 1) (by simp [results, Tryz.results32, go_sem]) rfl ?_
  exact ⟨_, rfl, gAl w _, Or.inr ⟨w.heap.size, 0, rfl, by simp, fun j hj => by
    have : j = 0 := by simp at hj; omega
    subst this
    refine ⟨?_, ?_, ?_, ?_, ?_⟩ <;> simp [go_sem]⟩⟩
set_option maxHeartbeats 8000000 in
theorem dIs_any {S T U : Nat → Prop} {B : Nat} {w : World} {c mb : Nat} {N : List (Hd × Nat)} {l : List Hv} {a : Option Addr} (k : Nat) (h : Bo B S T U w c mb N l a) : Calls Tryz.prog 9 #[.pointer (some ⟨c, 0, none⟩), .slice a l.length k] w fun e w' => e = .returned (.bool true) ∧ Below w.heap.size w w' := by
  have HA := Lib.hid (kAll_any h.cb)
  have HS := Lib.hid (fun (V : World) (la : List Hv) (aa : Option Addr) (ca : Nat) (hM : hds la = N.map (·.1)) (hb : Bd w.heap.size w la aa ca V) => rSame_any la l aa a ca k V hb.hin (h.hd.below hb.2) (hM.trans h.eq) (h.eq ▸ h.cb.ok))
  clear h
  go_enter Tryz.func9, Tryz.ntmps9
  go_wp2_with (first | (go_at_call 24; refine HA.out.mono ?_; rintro e w2 ⟨la, aa, ca, hM, rfl, hbd⟩; have HR := Lib.hid (HS.out w2 la aa ca hM hbd); have HB := Lib.hid hbd.2; clear hM hbd) | (go_at_call 14; refine HR.out.mono ?_; rintro e w3 ⟨rfl, hb3⟩; have HB3 := Lib.hid hb3; clear hb3))
  refine bodyPost_ret (v := .bool true) (by simp [results, Tryz.results9, go_sem]) rfl ?_
  exact ⟨rfl, HB.out.trans (HB3.out.mono HB.out.size)⟩
set_option maxHeartbeats 16000000 in
theorem doesAdd_any {S T U : Nat → Prop} {B : Nat} {w : World} {c mb : Nat} {N : List (Hd × Nat)} {l : List Hv} {a : Option Addr} (k : Nat) (h : Bo B S T U w c mb N l a) (hB : B ≤ w.heap.size) (id : Int) (wt : Nat) (na : Option Addr) (nl nc : Nat) (hid : -9223372036854775808 ≤ id ∧ id < 9223372036854775808) (hwt : wt < 2 ^ 64) :
    Calls Tryz.prog 8 #[.pointer (some ⟨c, 0, none⟩), .slice a l.length k, .agg #[.int .i64 0, .int .i64 id, .float .f64 wt, .slice na nl nc]] w fun e w' => DoesRet B w c (addR (hds l) id wt).2 e w' := by
  obtain ⟨W1, hW1⟩ : ∃ W1, W1 = w.alloc (.cells #[.int .i64 0, .int .i64 id, .float .f64 wt, .slice na nl nc] 31) := ⟨_, rfl⟩
  have hb1 : Below w.heap.size w W1 := by rw [hW1]; exact gAl w _
  have hs1 : W1.heap.size = w.heap.size + 1 := by rw [hW1, World.size_alloc]
  have c0 : W1.cell? ⟨w.heap.size, 0, none⟩ = some (.int .i64 0) := by rw [hW1]; simp [go_sem]
  have c1 : W1.cell? ⟨w.heap.size, 1, none⟩ = some (.int .i64 id) := by rw [hW1]; simp [go_sem]
  have c2 : W1.cell? ⟨w.heap.size, 2, none⟩ = some (.float .f64 wt) := by rw [hW1]; simp [go_sem]
  have h1 := h.below hb1
  have H1 := Lib.hid h1
  have HB := Lib.hid (And.intro hB (And.intro hs1 hb1))
  have HD := Lib.hid (rAdd_any l a k id wt W1 H1.out.hd (H1.out.eq ▸ H1.out.cb.ok) hwt)
  have HC := Lib.hid (And.intro c1 c2)
  have HK := Lib.hid (fun (W2 : World) (hb2 : Below W1.heap.size W1 W2) => (H1.out.eq ▸ kAdd_any (H1.out.cb.lt.below hb2) hid hwt : Calls Tryz.prog 25 #[.pointer (some ⟨c, 0, none⟩), .int .i64 id, .float .f64 wt] W2 fun e w' => e = .returned (.int .i64 (addR (hds l) id wt).1) ∧ Pst (fun b => S b ∧ b < W1.heap.size) (fun b => T b ∧ b < W1.heap.size) W2 w' c (addR (hds l) id wt).2))
  go_enter Tryz.func8, Tryz.ntmps8
  go_upto_region 1 with (fail)
  rw [← hW1]
  clear hW1 h h1 hb1 hs1 hB
  go_wp2_with (first | (go_at_call 28; refine HD.out.mono ?_; rintro e w2 ⟨l2, a2, k2, hM, rfl, hhd, hb2⟩; have HE := Lib.hid (And.intro hM (And.intro hhd hb2)); have d1 := (hb2.cell (p := ⟨w.heap.size, 1, none⟩) (by have := HB.out.2.1; show w.heap.size < W1.heap.size; omega)).trans HC.out.1; have d2 := (hb2.cell (p := ⟨w.heap.size, 2, none⟩) (by have := HB.out.2.1; show w.heap.size < W1.heap.size; omega)).trans HC.out.2; clear hM hhd hb2) | (go_at_call 25; refine (HK.out _ HE.out.2.2).mono ?_; rintro e w3 ⟨rfl, hp⟩; have HP := Lib.hid hp; clear hp))
  refine bodyPost_ret (v := .tuple #[.slice a2 l2.length k2, .bool true]) (by simp [results, Tryz.results8, go_sem]) rfl ?_
  have hst := H1.out.step HE.out.2.2 HE.out.2.1 HP.out HE.out.1.symm (by have := HB.out.1; have := HB.out.2.1; omega)
  exact ⟨l2, a2, k2, HE.out.1, rfl, hst.1, (HB.out.2.2.mono HB.out.1).trans hst.2⟩
set_option maxHeartbeats 16000000 in
theorem doesWeigh_any {S T U : Nat → Prop} {B : Nat} {w : World} {c mb : Nat} {N : List (Hd × Nat)} {l : List Hv} {a : Option Addr} (k : Nat) (h : Bo B S T U w c mb N l a) (hB : B ≤ w.heap.size) (id : Int) (wt : Nat) (na : Option Addr) (nl nc : Nat) (hid : -9223372036854775808 ≤ id ∧ id < 9223372036854775808) (hwt : wt < 2 ^ 64) :
    Calls Tryz.prog 8 #[.pointer (some ⟨c, 0, none⟩), .slice a l.length k, .agg #[.int .i64 1, .int .i64 id, .float .f64 wt, .slice na nl nc]] w fun e w' => DoesRet B w c (weighR (hds l) id wt).2 e w' := by
  obtain ⟨W1, hW1⟩ : ∃ W1, W1 = w.alloc (.cells #[.int .i64 1, .int .i64 id, .float .f64 wt, .slice na nl nc] 31) := ⟨_, rfl⟩
  have hb1 : Below w.heap.size w W1 := by rw [hW1]; exact gAl w _
  have hs1 : W1.heap.size = w.heap.size + 1 := by rw [hW1, World.size_alloc]
  have c0 : W1.cell? ⟨w.heap.size, 0, none⟩ = some (.int .i64 1) := by rw [hW1]; simp [go_sem]
  have c1 : W1.cell? ⟨w.heap.size, 1, none⟩ = some (.int .i64 id) := by rw [hW1]; simp [go_sem]
  have c2 : W1.cell? ⟨w.heap.size, 2, none⟩ = some (.float .f64 wt) := by rw [hW1]; simp [go_sem]
  have h1 := h.below hb1
  have H1 := Lib.hid h1
  have HB := Lib.hid (And.intro hB (And.intro hs1 hb1))
  have HD := Lib.hid (rWeigh_any l a k id wt W1 H1.out.hd (H1.out.eq ▸ H1.out.cb.ok) hwt)
  have HC := Lib.hid (And.intro c1 c2)
  have HK := Lib.hid (fun (W2 : World) (hb2 : Below W1.heap.size W1 W2) => (H1.out.eq ▸ kWeigh_any (H1.out.cb.lt.below hb2) hid hwt : Calls Tryz.prog 26 #[.pointer (some ⟨c, 0, none⟩), .int .i64 id, .float .f64 wt] W2 fun e w' => e = .returned (.int .i64 (weighR (hds l) id wt).1) ∧ Pst (fun b => S b ∧ b < W1.heap.size) (fun b => T b ∧ b < W1.heap.size) W2 w' c (weighR (hds l) id wt).2))
  go_enter Tryz.func8, Tryz.ntmps8
  go_upto_region 1 with (fail)
  rw [← hW1]
  clear hW1 h h1 hb1 hs1 hB
  go_wp2_with (first | (go_at_call 29; refine HD.out.mono ?_; rintro e w2 ⟨l2, a2, k2, hM, rfl, hhd, hb2⟩; have HE := Lib.hid (And.intro hM (And.intro hhd hb2)); have d1 := (hb2.cell (p := ⟨w.heap.size, 1, none⟩) (by have := HB.out.2.1; show w.heap.size < W1.heap.size; omega)).trans HC.out.1; have d2 := (hb2.cell (p := ⟨w.heap.size, 2, none⟩) (by have := HB.out.2.1; show w.heap.size < W1.heap.size; omega)).trans HC.out.2; clear hM hhd hb2) | (go_at_call 26; refine (HK.out _ HE.out.2.2).mono ?_; rintro e w3 ⟨rfl, hp⟩; have HP := Lib.hid hp; clear hp))
  refine bodyPost_ret (v := .tuple #[.slice a2 l2.length k2, .bool true]) (by simp [results, Tryz.results8, go_sem]) rfl ?_
  have hst := H1.out.step HE.out.2.2 HE.out.2.1 HP.out HE.out.1.symm (by have := HB.out.1; have := HB.out.2.1; omega)
  exact ⟨l2, a2, k2, HE.out.1, rfl, hst.1, (HB.out.2.2.mono HB.out.1).trans hst.2⟩
set_option maxHeartbeats 16000000 in
theorem doesRemove_any {S T U : Nat → Prop} {B : Nat} {w : World} {c mb : Nat} {N : List (Hd × Nat)} {l : List Hv} {a : Option Addr} (k : Nat) (h : Bo B S T U w c mb N l a) (hB : B ≤ w.heap.size) (id : Int) (wt : Nat) (na : Option Addr) (nl nc : Nat) (hid : -9223372036854775808 ≤ id ∧ id < 9223372036854775808) (hwt : wt < 2 ^ 64) :
    Calls Tryz.prog 8 #[.pointer (some ⟨c, 0, none⟩), .slice a l.length k, .agg #[.int .i64 2, .int .i64 id, .float .f64 wt, .slice na nl nc]] w fun e w' => DoesRet B w c (rmR (hds l) id).2 e w' := by
  obtain ⟨W1, hW1⟩ : ∃ W1, W1 = w.alloc (.cells #[.int .i64 2, .int .i64 id, .float .f64 wt, .slice na nl nc] 31) := ⟨_, rfl⟩
  have hb1 : Below w.heap.size w W1 := by rw [hW1]; exact gAl w _
  have hs1 : W1.heap.size = w.heap.size + 1 := by rw [hW1, World.size_alloc]
  have c0 : W1.cell? ⟨w.heap.size, 0, none⟩ = some (.int .i64 2) := by rw [hW1]; simp [go_sem]
  have c1 : W1.cell? ⟨w.heap.size, 1, none⟩ = some (.int .i64 id) := by rw [hW1]; simp [go_sem]
  have c2 : W1.cell? ⟨w.heap.size, 2, none⟩ = some (.float .f64 wt) := by rw [hW1]; simp [go_sem]
  have h1 := h.below hb1
  have H1 := Lib.hid h1
  have HB := Lib.hid (And.intro hB (And.intro hs1 hb1))
  have HD := Lib.hid (rRemove_any l a k id W1 H1.out.hd (H1.out.eq ▸ H1.out.cb.ok))
  have HC := Lib.hid (And.intro c1 c2)
  have HK := Lib.hid (fun (W2 : World) (hb2 : Below W1.heap.size W1 W2) => (H1.out.eq ▸ kRemove_any (H1.out.cb.lt.below hb2) hid : Calls Tryz.prog 27 #[.pointer (some ⟨c, 0, none⟩), .int .i64 id] W2 fun e w' => e = .returned (.int .i64 (rmR (hds l) id).1) ∧ Pst (fun b => S b ∧ b < W1.heap.size) (fun b => T b ∧ b < W1.heap.size) W2 w' c (rmR (hds l) id).2))
  go_enter Tryz.func8, Tryz.ntmps8
  go_upto_region 1 with (fail)
  rw [← hW1]
  clear hW1 h h1 hb1 hs1 hB
  go_wp2_with (first | (go_at_call 30; refine HD.out.mono ?_; rintro e w2 ⟨l2, a2, k2, hM, rfl, hhd, hb2⟩; have HE := Lib.hid (And.intro hM (And.intro hhd hb2)); have d1 := (hb2.cell (p := ⟨w.heap.size, 1, none⟩) (by have := HB.out.2.1; show w.heap.size < W1.heap.size; omega)).trans HC.out.1; have d2 := (hb2.cell (p := ⟨w.heap.size, 2, none⟩) (by have := HB.out.2.1; show w.heap.size < W1.heap.size; omega)).trans HC.out.2; clear hM hhd hb2) | (go_at_call 27; refine (HK.out _ HE.out.2.2).mono ?_; rintro e w3 ⟨rfl, hp⟩; have HP := Lib.hid hp; clear hp))
  refine bodyPost_ret (v := .tuple #[.slice a2 l2.length k2, .bool true]) (by simp [results, Tryz.results8, go_sem]) rfl ?_
  have hst := H1.out.step HE.out.2.2 HE.out.2.1 HP.out HE.out.1.symm (by have := HB.out.1; have := HB.out.2.1; omega)
  exact ⟨l2, a2, k2, HE.out.1, rfl, hst.1, (HB.out.2.2.mono HB.out.1).trans hst.2⟩
set_option maxHeartbeats 16000000 in
theorem doesForget_any {S T U : Nat → Prop} {B : Nat} {w : World} {c mb : Nat} {N : List (Hd × Nat)} {l : List Hv} {a : Option Addr} (k : Nat) (h : Bo B S T U w c mb N l a) (hB : B ≤ w.heap.size) (id : Int) (op : Int) (hop : op ≠ 0 ∧ op ≠ 1 ∧ op ≠ 2 ∧ op ≠ 3) (wt : Nat) (na : Option Addr) (nl nc : Nat) (hid : -9223372036854775808 ≤ id ∧ id < 9223372036854775808) (hwt : wt < 2 ^ 64) :
    Calls Tryz.prog 8 #[.pointer (some ⟨c, 0, none⟩), .slice a l.length k, .agg #[.int .i64 op, .int .i64 id, .float .f64 wt, .slice na nl nc]] w fun e w' => DoesRet B w c (forgetR (hds l) id).2.2 e w' := by
  have o0 : (op == 0) = false := by simp [hop.1]
  have o1 : (op == 1) = false := by simp [hop.2.1]
  have o2 : (op == 2) = false := by simp [hop.2.2.1]
  have o3 : (op == 3) = false := by simp [hop.2.2.2]
  clear hop
  obtain ⟨W1, hW1⟩ : ∃ W1, W1 = w.alloc (.cells #[.int .i64 op, .int .i64 id, .float .f64 wt, .slice na nl nc] 31) := ⟨_, rfl⟩
  have hb1 : Below w.heap.size w W1 := by rw [hW1]; exact gAl w _
  have hs1 : W1.heap.size = w.heap.size + 1 := by rw [hW1, World.size_alloc]
  have c0 : W1.cell? ⟨w.heap.size, 0, none⟩ = some (.int .i64 op) := by rw [hW1]; simp [go_sem]
  have c1 : W1.cell? ⟨w.heap.size, 1, none⟩ = some (.int .i64 id) := by rw [hW1]; simp [go_sem]
  have c2 : W1.cell? ⟨w.heap.size, 2, none⟩ = some (.float .f64 wt) := by rw [hW1]; simp [go_sem]
  have h1 := h.below hb1
  have H1 := Lib.hid h1
  have HB := Lib.hid (And.intro hB (And.intro hs1 hb1))
  have HD := Lib.hid (rForget_any l a k id W1 H1.out.hd (H1.out.eq ▸ H1.out.cb.ok))
  have HC := Lib.hid (And.intro c1 c2)
  have HK := Lib.hid (fun (W2 : World) (hb2 : Below W1.heap.size W1 W2) => (H1.out.eq ▸ kForget_any (H1.out.cb.lt.below hb2) hid : Calls Tryz.prog 22 #[.pointer (some ⟨c, 0, none⟩), .int .i64 id] W2 fun e w' => e = .returned (.tuple #[.int .i64 ((forgetR (hds l) id).2.1 : Int), .int .i64 (forgetR (hds l) id).1]) ∧ Pst (fun b => S b ∧ b < W1.heap.size) (fun b => T b ∧ b < W1.heap.size) W2 w' c (forgetR (hds l) id).2.2))
  go_enter Tryz.func8, Tryz.ntmps8
  go_upto_region 1 with (fail)
  rw [← hW1]
  clear hW1 h h1 hb1 hs1 hB
  go_wp2_with (first | (go_at_call 31; refine HD.out.mono ?_; rintro e w2 ⟨l2, a2, k2, hM, rfl, hhd, hb2⟩; have HE := Lib.hid (And.intro hM (And.intro hhd hb2)); have d1 := (hb2.cell (p := ⟨w.heap.size, 1, none⟩) (by have := HB.out.2.1; show w.heap.size < W1.heap.size; omega)).trans HC.out.1; have d2 := (hb2.cell (p := ⟨w.heap.size, 2, none⟩) (by have := HB.out.2.1; show w.heap.size < W1.heap.size; omega)).trans HC.out.2; clear hM hhd hb2) | (go_at_call 22; refine (HK.out _ HE.out.2.2).mono ?_; rintro e w3 ⟨rfl, hp⟩; have HP := Lib.hid hp; clear hp))
  refine bodyPost_ret (v := .tuple #[.slice a2 l2.length k2, .bool true]) (by simp [results, Tryz.results8, go_sem]) rfl ?_
  have hst := H1.out.step HE.out.2.2 HE.out.2.1 HP.out HE.out.1.symm (by have := HB.out.1; have := HB.out.2.1; omega)
  exact ⟨l2, a2, k2, HE.out.1, rfl, hst.1, (HB.out.2.2.mono HB.out.1).trans hst.2⟩
theorem Bo.lt {B : Nat} {S T U : Nat → Prop} {w : World} {c mb : Nat} {N : List (Hd × Nat)} {l : List Hv} {a : Option Addr} (h : Bo B S T U w c mb N l a) : Bo B (fun b => S b ∧ b < w.heap.size) (fun b => T b ∧ b < w.heap.size) (fun b => U b ∧ b < w.heap.size) w c mb N l a :=
  ⟨h.cb.lt, h.eq, h.hd.lt, fun b hb hs => h.ap b hb.1 hs.1, fun b hb => h.lo b hb.1⟩
theorem cell_of_xs {S : Nat → Prop} {a b : World} (h : Xs S a b) {k o : Nat} (hk : k < a.heap.size) (hS : ¬ S k) : b.cell? ⟨k, o, none⟩ = a.cell? ⟨k, o, none⟩ := World.cell?_of_block (h.block k hk hS)
theorem rw_cap {w : World} {r : Nat} {l : List Nw} {a : Option Addr} {c : Nat} (h : Nr w r (.slice a l.length c) l) : l.length ≤ c ∧ c ≤ 9223372036854775807 := by
  rcases h with ⟨h0, h1, a', e⟩ | ⟨o, cp, cur, e, h1, h2, h3, -⟩
  · simp only [Value.slice.injEq] at e
    exact ⟨by omega, by omega⟩
  · cases e
    exact ⟨h2, by unfold maxLen at h3; omega⟩
set_option maxHeartbeats 16000000 in
theorem doesLearn_any {S T U : Nat → Prop} {B : Nat} {w : World} {c mb : Nat} {N : List (Hd × Nat)} {l : List Hv} {a : Option Addr} (k : Nat) (h0 : Bo B S T U w c mb N l a) (hB : B ≤ w.heap.size) (id : Int) (wt : Nat) (news : List Nw) (na : Option Addr) (nc : Nat) (hid : -9223372036854775808 ≤ id ∧ id < 9223372036854775808) (hin : NewsIn w w.heap.size news na) (hfit : ∀ x ∈ news, x.Fit) (hlen : (news.length + 1) * 40 ≤ 140737488355328) :
    Calls Tryz.prog 8 #[.pointer (some ⟨c, 0, none⟩), .slice a l.length k, .agg #[.int .i64 3, .int .i64 id, .float .f64 wt, .slice na news.length nc]] w fun e w' => DoesRet B w c (learnR (hds l) id news).2.2 e w' := by
  obtain ⟨S2, T2, U2, h, hS2⟩ : ∃ S2 T2 U2 : Nat → Prop, Bo B S2 T2 U2 w c mb N l a ∧ ∀ b, S2 b → b < w.heap.size := ⟨_, _, _, h0.lt, fun _ h => h.2⟩
  have HS2 := Lib.hid hS2
  clear hS2
  obtain ⟨W1, hW1⟩ : ∃ W1, W1 = w.alloc (.cells #[.int .i64 3, .int .i64 id, .float .f64 wt, .slice na news.length nc] 31) := ⟨_, rfl⟩
  have hb1 : Below w.heap.size w W1 := by rw [hW1]; exact gAl w _
  have hs1 : W1.heap.size = w.heap.size + 1 := by rw [hW1, World.size_alloc]
  have c0 : W1.cell? ⟨w.heap.size, 0, none⟩ = some (.int .i64 3) := by rw [hW1]; simp [go_sem]
  have c1 : W1.cell? ⟨w.heap.size, 1, none⟩ = some (.int .i64 id) := by rw [hW1]; simp [go_sem]
  have c3 : W1.cell? ⟨w.heap.size, 3, none⟩ = some (.slice na news.length nc) := by rw [hW1]; simp [go_sem]
  have h1 := h.below hb1
  have H1 := Lib.hid h1
  have HB := Lib.hid (And.intro hB (And.intro hs1 hb1))
  have hin1 : NewsIn W1 W1.heap.size news na := hin.kept (fun i hi => hb1.block i hi) hb1.size
  have HD := Lib.hid (rLearn_any l a k id news na nc W1 H1.out.hd (H1.out.eq ▸ H1.out.cb.ok) hin1 hfit (by omega))
  have HIN := Lib.hid hin1
  have HC := Lib.hid (And.intro c1 c3)
  have HFIT := Lib.hid (And.intro hfit hlen)
  clear hin1 hin hfit hlen h0
  go_enter Tryz.func8, Tryz.ntmps8
  go_upto_region 1 with (fail)
  rw [← hW1]
  clear hW1 h h1 hb1 hs1 hB
  go_upto_region 13 with (go_at_call 21; refine HD.out.mono ?_; rintro e w2 ⟨l2, a2, k2, hM, rfl, hhd, hb2⟩; have HE := Lib.hid (And.intro hM (And.intro hhd hb2)); have d1 := (hb2.cell (p := ⟨w.heap.size, 1, none⟩) (by have := HB.out.2.1; show w.heap.size < W1.heap.size; omega)).trans HC.out.1; have d3 := (hb2.cell (p := ⟨w.heap.size, 3, none⟩) (by have := HB.out.2.1; show w.heap.size < W1.heap.size; omega)).trans HC.out.2; clear hM hhd hb2)
  have hdr := (Below.refl w2.heap.size w2).drew
  have hd1 := (hdr.cell (p := ⟨w.heap.size, 1, none⟩) (by have := HB.out.2.1; have := HE.out.2.2.size; show w.heap.size < w2.heap.size; omega)).trans d1
  have hd3 := (hdr.cell (p := ⟨w.heap.size, 3, none⟩) (by have := HB.out.2.1; have := HE.out.2.2.size; show w.heap.size < w2.heap.size; omega)).trans d3
  refine wp_region_held_drew (S := fun V => V.cell? ⟨w.heap.size, 1, none⟩ = some (.int .i64 id) ∧ V.cell? ⟨w.heap.size, 3, none⟩ = some (.slice na news.length nc)) (by kernel_rfl) ⟨hd1, hd3⟩ (fun hs0 => ?_)
  have HV0 := Lib.hid hdr
  clear hdr hd1 hd3 d1 d3 c0 c1 c3
  generalize w2.drew = V0 at *
  have hb10 : Below W1.heap.size W1 V0 := HE.out.2.2.trans (HV0.out.mono HE.out.2.2.size)
  have HNW := Lib.hid (rNews_any news na nc V0 (HIN.out.kept (fun i hi => hb10.block i hi) hb10.size) HFIT.out.2)
  have HSN : Hid (∀ V5, Below V0.heap.size V0 V5 → V5.cell? ⟨w.heap.size, 1, none⟩ = some (.int .i64 id) ∧ V5.cell? ⟨w.heap.size, 3, none⟩ = some (.slice na news.length nc)) := Lib.hid (fun V5 hb5 => by
    have hlt : w.heap.size < V0.heap.size := by have := HB.out.2.1; have := hb10.size; omega
    exact ⟨(hb5.cell (p := ⟨w.heap.size, 1, none⟩) hlt).trans hs0.1, (hb5.cell (p := ⟨w.heap.size, 3, none⟩) hlt).trans hs0.2⟩)
  have HLF : Hid (∀ V5, Below V0.heap.size V0 V5 → ∀ a5 c5 r5, Nr V5 r5 (.slice a5 news.length c5) news → Calls Tryz.prog 20 #[.pointer (some ⟨c, 0, none⟩), .int .i64 id, .slice a5 news.length c5] V5 fun e w' => e = .returned (.tuple #[.int .i64 ((learnR (hds l) id news).2.1 : Int), .int .i64 (learnR (hds l) id news).1]) ∧ Pst (fun b => S2 b ∧ b < W1.heap.size) (fun b => T2 b ∧ b < W1.heap.size) V5 w' c (learnR (hds l) id news).2.2) := Lib.hid (fun V5 hb5 a5 c5 r5 hrow => by
    have := kLearn_any (H1.out.cb.lt.below (hb10.trans (hb5.mono hb10.size))) hid news a5 c5 (nr_nws hrow).news HFIT.out.1 (rw_cap hrow).1 (rw_cap hrow).2
    rw [H1.out.eq] at this
    exact this)
  have HSL : Hid (∀ V5 V6, Below V0.heap.size V0 V5 → Pst (fun b => S2 b ∧ b < W1.heap.size) (fun b => T2 b ∧ b < W1.heap.size) V5 V6 c (learnR (hds l) id news).2.2 → (V5.cell? ⟨w.heap.size, 1, none⟩ = some (.int .i64 id) ∧ V5.cell? ⟨w.heap.size, 3, none⟩ = some (.slice na news.length nc)) → (V6.cell? ⟨w.heap.size, 1, none⟩ = some (.int .i64 id) ∧ V6.cell? ⟨w.heap.size, 3, none⟩ = some (.slice na news.length nc))) := Lib.hid (fun V5 V6 hb5 hp6 hc => by
    have hlt : w.heap.size < V5.heap.size := by have := HB.out.2.1; have := hb10.size; have := hb5.size; omega
    have hns : ¬ (S2 w.heap.size ∧ w.heap.size < W1.heap.size) := fun e => by have := HS2.out _ e.1; omega
    exact ⟨(cell_of_xs hp6.1 hlt hns).trans hc.1, (cell_of_xs hp6.1 hlt hns).trans hc.2⟩)
  clear hb10
  refine tk 0 (by assumption) rfl (by kernel_rfl) (fun _ _ _ h => h) (fun V hV => by go_simp; try with_reducible rfl) ?_
  try simp only [Act.put, sqA, sqB, sqC, sqD, sqE, sqF]
  refine tk 1 (by assumption) rfl (by kernel_rfl) (fun _ _ _ h => h) (fun V hV => by go_simp; try with_reducible rfl) ?_
  try simp only [Act.put, sqA, sqB, sqC, sqD, sqE, sqF]
  refine tk 2 (by assumption) rfl (by kernel_rfl) (fun _ _ _ h => h) (fun V hV => by obtain ⟨hx1, hx3⟩ := hV; go_simp; try with_reducible rfl) ?_
  try simp only [Act.put, sqA, sqB, sqC, sqD, sqE, sqF]
  refine tk 3 (by assumption) rfl (by kernel_rfl) (fun _ _ _ h => h) (fun V hV => by go_simp; try with_reducible rfl) ?_
  try simp only [Act.put, sqA, sqB, sqC, sqD, sqE, sqF]
  refine tk 4 (by assumption) rfl (by kernel_rfl) (fun _ _ _ h => h) (fun V hV => by obtain ⟨hx1, hx3⟩ := hV; go_simp; try with_reducible rfl) ?_
  try simp only [Act.put, sqA, sqB, sqC, sqD, sqE, sqF]
  refine wpAnyH_ready (rs := [5]) (by kernel_rfl) (by simp) ?_
  refine AllReadyH.cons (o := _) rfl (fun K hK => ?_) AllReadyH.nil
  go_simp
  refine HNW.out.mono ?_
  rintro e5 V5 ⟨hb5, a5, c5, r5, rfl, hr5, hrow5⟩
  have HB5 := Lib.hid hb5
  have HLN := Lib.hid (HLF.out V5 hb5 a5 c5 r5 hrow5)
  have hS5 := HSN.out V5 hb5
  clear hb5 hr5 hrow5
  go_wp2_with fail
  refine hK.out _ _ hS5 (fun hs0 => ?_)
  clear hK K hS5
  try simp only [Act.put, sqA, sqB, sqC, sqD, sqE, sqF]
  refine wpAnyH_ready (rs := [6]) (by kernel_rfl) (by simp) ?_
  refine AllReadyH.cons (o := _) rfl (fun K hK => ?_) AllReadyH.nil
  go_simp
  refine HLN.out.mono ?_
  rintro e6 V6 ⟨rfl, hp6⟩
  have HP6 := Lib.hid hp6
  have hS6 := HSL.out V5 V6 HB5.out hp6 hs0
  clear hp6
  go_wp2_with fail
  refine hK.out _ _ hS6 (fun hs0 => ?_)
  clear hK K hS6
  try simp only [Act.put, sqA, sqB, sqC, sqD, sqE, sqF]
  refine tk 7 (by assumption) rfl (by kernel_rfl) (fun _ _ _ h => h) (fun V hV => by go_simp; try with_reducible rfl) ?_
  try simp only [Act.put, sqA, sqB, sqC, sqD, sqE, sqF]
  refine tk 8 (by assumption) rfl (by kernel_rfl) (fun _ _ _ h => h) (fun V hV => by go_simp; try with_reducible rfl) ?_
  try simp only [Act.put, sqA, sqB, sqC, sqD, sqE, sqF]
  refine tk 9 (by assumption) rfl (by kernel_rfl) (fun _ _ _ h => h) (fun V hV => by go_simp; try with_reducible rfl) ?_
  try simp only [Act.put, sqA, sqB, sqC, sqD, sqE, sqF]
  refine tk 10 (by assumption) rfl (by kernel_rfl) (fun _ _ _ h => h) (fun V hV => by go_simp; try with_reducible rfl) ?_
  try simp only [Act.put, sqA, sqB, sqC, sqD, sqE, sqF]
  refine tk 11 (by assumption) rfl (by kernel_rfl) (fun _ _ _ h => h) (fun V hV => by go_simp; try with_reducible rfl) ?_
  try simp only [Act.put, sqA, sqB, sqC, sqD, sqE, sqF]
  refine wpAnyH_done (by kernel_rfl) ?_ _
  clear hs0
  go_wp2_with fail
  refine bodyPost_ret (v := .tuple #[.slice a2 l2.length k2, .bool true]) (by simp [results, Tryz.results8, go_sem]) rfl ?_
  have hb15 : Below W1.heap.size W1 V5 := HE.out.2.2.trans ((HV0.out.trans (HB5.out.mono HV0.out.size)).mono HE.out.2.2.size)
  have hst := H1.out.step hb15 (HE.out.2.1.below (HV0.out.trans (HB5.out.mono HV0.out.size))) HP6.out HE.out.1.symm (by have := HB.out.1; have := HB.out.2.1; omega)
  exact ⟨l2, a2, k2, HE.out.1, rfl, hst.1, (HB.out.2.2.mono HB.out.1).trans hst.2⟩
end Go.Proofs.YtjhmfmpaaljegaaGreat
