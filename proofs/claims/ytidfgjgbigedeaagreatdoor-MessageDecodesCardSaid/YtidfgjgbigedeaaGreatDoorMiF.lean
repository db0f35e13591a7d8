/- Messages: a message of fields, the program. -/
import Derived.Test.YtidfgjgbigedeaaGreatDoorMiD
import Derived.Test.YtidfgjgbigedeaaGreatDoorMiE
import Derived.Test.YtidfgjgbigedeaaGreatDoorMgJ
namespace Go.Proofs.YtidfgjgbigedeaaGreatDoor
open Go.RowKit Go.Lib Go.Wq Go.Mq
set_option linter.unusedVariables false
set_option linter.unusedSimpArgs false
set_option maxRecDepth 100000

/-- A message's cells. -/
def msCells (m : Ms) (na : Option Addr) (nc : Nat) : List Value := [.int .i64 m.kind, .int .u64 (m.nonce : Int), .int .u64 (m.echo : Int), .int .u64 (m.seq : Int), .slice na m.news.length nc, .int .i64 m.pk.kind, .int .i64 m.pk.frm, .int .i64 m.pk.back, .int .i64 m.pk.to, .int .i64 m.pk.home, .int .i64 m.pk.hops, .int .u64 (m.pk.serial : Int), .int .i64 m.pk.code, .string m.pk.name, .int .i64 m.pk.id, .int .i64 m.pk.at_, .string m.pk.body]
/-- How a reader of a message ends. -/
def MsEnds (w : World) (m : Ms) (e : Ending) (w' : World) : Prop := ∃ (na : Option Addr) (nc : Nat), e = .returned (.agg (msCells m na nc).toArray) ∧ NewsOwn w' w.heap.size m.news na nc ∧ Below w.heap.size w w'
/-- Two boxes of a message, while one is filled. -/
structure Box2 (B : Nat) (w : World) (r x : Nat) (cs : List Value) (V : World) : Prop where
  bel : Below B w V
  hx : x < V.heap.size
  hr : r < V.heap.size
  at_ : V.rangeAt x 0 cs
  t1 : V.there x 0 17
  t2 : V.there r 0 17
theorem Box2.next {B : Nat} {w V V' : World} {r x : Nat} {cs : List Value} (h : Box2 B w r x cs V) (k : Below V.heap.size V V') (hB : B ≤ V.heap.size) : Box2 B w r x cs V' :=
  ⟨h.bel.trans (k.mono hB), Nat.lt_of_lt_of_le h.hx k.size, Nat.lt_of_lt_of_le h.hr k.size, fun j v hj => (k.cell (p := ⟨x, 0 + j, none⟩) h.hx).trans (h.at_ j v hj), there_next h.t1 h.hx k, there_next h.t2 h.hr k⟩
theorem Box2.drew {B : Nat} {w V : World} {r x : Nat} {cs : List Value} (h : Box2 B w r x cs V) : Box2 B w r x cs V.drew := ⟨h.bel.drew, h.hx, h.hr, h.at_, h.t1, h.t2⟩
theorem set_size (V : World) (n : Nat) : ∀ (vs : List Value) (o : Nat) (W : World), W.heap.size = V.heap.size → (W.setCells n o vs).heap.size = V.heap.size
  | [], _, _, h => h
  | v :: r, o, W, h => by rw [World.setCells]; exact set_size V n r (o + 1) _ (by simpa [World.setCell] using h)
theorem Box2.sets {B : Nat} {w V : World} {r x : Nat} {cs : List Value} (h : Box2 B w r x cs V) (hB : B ≤ x) (o : Nat) (vs : List Value) (ho : o + vs.length ≤ cs.length) (hc : cs.length = 17) : Box2 B w r x (cs.take o ++ (vs ++ cs.drop (o + vs.length))) (V.setCells x o vs) := by
  have hs : (V.setCells x o vs).heap.size = V.heap.size := set_size V x vs o V rfl
  refine ⟨below_set x hB vs o V h.bel, by rw [hs]; exact h.hx, by rw [hs]; exact h.hr, ?_, World.there_setCells h.t1 x o vs, World.there_setCells h.t2 x o vs⟩
  intro j v hj
  have hth : ∀ i, i < vs.length → (V.cell? ⟨x, o + i, none⟩).isSome = true := fun i hi => by
    have := (h.t1 (o + i) (by omega)).1
    simpa using this
  by_cases h1 : j < o
  · rw [List.getElem?_append_left (by rw [List.length_take]; omega), List.getElem?_take_of_lt h1] at hj
    rw [World.cell?_setCells_out x vs o V ⟨x, 0 + j, none⟩ (fun _ _ => Or.inl (by show 0 + j < o; omega))]
    exact h.at_ j v hj
  · rw [List.getElem?_append_right (by rw [List.length_take]; omega)] at hj
    have ht : (cs.take o).length = o := by rw [List.length_take]; omega
    rw [ht] at hj
    by_cases h2 : j - o < vs.length
    · rw [List.getElem?_append_left h2] at hj
      have := World.cell?_setCells_in x vs o V hth (j - o) h2
      rw [show o + (j - o) = 0 + j by omega] at this
      rw [this, ← hj, List.getElem?_eq_getElem h2]
    · rw [List.getElem?_append_right (by omega), List.getElem?_drop] at hj
      rw [World.cell?_setCells_out x vs o V ⟨x, 0 + j, none⟩ (fun _ _ => Or.inr (by show o + vs.length ≤ 0 + j; omega))]
      rw [show o + vs.length + (j - o - vs.length) = j by omega] at hj
      exact h.at_ j v hj
theorem Box2.cell {B : Nat} {w V : World} {r x : Nat} {cs : List Value} (h : Box2 B w r x cs V) (j : Nat) (v : Value) (hj : cs[j]? = some v) : V.cell? ⟨x, j, none⟩ = some v := by
  have := h.at_ j v hj
  rwa [Nat.zero_add] at this
theorem Box2.frozen {B : Nat} {w V : World} {r x : Nat} {cs : List Value} (h : Box2 B w r x cs V) (j : Nat) (hj : j < 17) : V.frozen? ⟨x, j, none⟩ = false := by
  have := (h.t1 j hj).2
  rwa [Nat.zero_add] at this
theorem box2_new (w w1 : World) (cs zs : List Value) (t : TypeId) (hz : zs.length = 17) (hc : cs.length = 17) (hb : Below (w.alloc (.cells zs.toArray t)).heap.size (w.alloc (.cells zs.toArray t)) w1) : Box2 w.heap.size w w.heap.size w1.heap.size cs (w1.alloc (.cells cs.toArray t)) := by
  have h0 : w.heap.size < (w.alloc (.cells zs.toArray t)).heap.size := by simp
  have h1 : w.heap.size < w1.heap.size := Nat.lt_of_lt_of_le h0 hb.size
  have hbw : Below w.heap.size w w1 := below_nx (below_al _ _) hb
  have ht : (w.alloc (.cells zs.toArray t)).there w.heap.size 0 17 := by have := there_box w zs t; rwa [hz] at this
  have ht2 : (w1.alloc (.cells cs.toArray t)).there w1.heap.size 0 17 := by have := there_box w1 cs t; rwa [hc] at this
  exact ⟨hbw.alloc (Nat.le_of_lt h1) _, by simp, by simp; omega, fun j v hj => by simp [go_sem, hj], ht2, World.there_alloc (there_next ht h0 hb) _⟩
/-- The last step: the filled box goes into the answer's. -/
theorem Box2.out {B : Nat} {w V : World} {r x : Nat} {cs : List Value} (h : Box2 B w r x cs V) (hr : B ≤ r) (hc : cs.length = 17) : (V.setCells r 0 cs).rangeAt r 0 cs ∧ Below B w (V.setCells r 0 cs) := by
  refine ⟨World.rangeAt_setCells_same V r 0 cs (by rw [hc]; exact h.t2), below_set r hr cs 0 V h.bel⟩
theorem heap_sets (x g : Nat) (hg : g ≠ x) : ∀ (vs : List Value) (o : Nat) (W : World), (W.setCells x o vs).heap[g]? = W.heap[g]?
  | [], _, _ => rfl
  | v :: r, o, W => by rw [World.setCells, heap_sets x g hg r (o + 1)]; exact Below.heap_setCell _ _ _ _ hg
theorem own_off {V : World} {B x o : Nat} {l : List Nw} {na : Option Addr} {nc : Nat} (vs : List Value) (h : NewsOwn V B l na nc) (hne : (Value.slice na l.length nc).ownBlock ≠ some x) : NewsOwn (V.setCells x o vs) B l na nc := by
  unfold NewsOwn at *
  refine ⟨h.1, ?_⟩
  rcases h.2 with h' | ⟨g, cap, cur, e, h1, h2, h3⟩
  · exact Or.inl h'
  · refine Or.inr ⟨g, cap, cur, e, h1, ?_, h3⟩
    have hg : g ≠ x := fun hg => hne (by rw [e, hg]; rfl)
    rw [← h2]
    exact heap_sets x g hg vs o V
theorem own_off0 {V : World} {B x : Nat} {l : List Nw} {na : Option Addr} {nc : Nat} (vs : List Value) (h : NewsOwn V B l na nc) (hne : (Value.slice na l.length nc).ownBlock ≠ some x) : NewsOwn (V.setCells x 0 vs) B l na nc := own_off vs h hne

set_option maxHeartbeats 4000000 in
theorem mMsOf_1 (u0 : Nat) (i0 : Int) (f0 : Nat) (b0 : Bool) (t0 : ByteArray) (a0 : Option Addr) (n0 c0 : Nat) (nn ec : Nat) (b o c : Nat) (w : World) (hb : b < w.heap.size)
    (e0 : w.rangeAt b o (fvals u0 i0 f0 b0 t0 a0 n0 c0)) (HW : ∀ W, Calls Tryz.prog 55 #[.agg (fvals u0 i0 f0 b0 t0 a0 n0 c0).toArray] W fun e w' => e = .returned (.int .i64 1) ∧ Below W.heap.size W w')
    (e1 : w.cell? ⟨b, o + 6, none⟩ = some (.int .u64 (nn : Int))) (e2 : w.cell? ⟨b, o + 12, none⟩ = some (.int .u64 (ec : Int)))
    : Calls Tryz.prog 28 #[.slice (some ⟨b, o, none⟩) 3 c] w (MsEnds w ⟨1, nn, ec, 0, [], pkZ⟩) := by
  have HW0 := Lib.hid HW
  clear HW
  have d0 := e0 0 _ rfl
  have d1 := e0 1 _ rfl
  have d2 := e0 2 _ rfl
  have d3 := e0 3 _ rfl
  have d4 := e0 4 _ rfl
  have d5 := e0 5 _ rfl
  simp only [Nat.add_zero] at d0 d1 d2 d3 d4 d5
  have E0 := Lib.hid e0
  clear e0
  go_enter Tryz.func28, Tryz.ntmps28
  go_upto_region 1 with (fail)
  go_upto_region 2 with (go_at_call 55; refine (HW0.out _).mono ?_; rintro e w1 ⟨rfl, hb1⟩)
  have HX := Lib.hid (box2_new w w1 [.int .i64 1, .int .u64 0, .int .u64 0, .int .u64 0, .slice none 0 0, .int .i64 0, .int .i64 0, .int .i64 0, .int .i64 0, .int .i64 0, .int .i64 0, .int .u64 0, .int .i64 0, .string ⟨#[]⟩, .int .i64 0, .int .i64 0, .string ⟨#[]⟩] [.int .i64 0, .int .u64 0, .int .u64 0, .int .u64 0, .slice none 0 0, .int .i64 0, .int .i64 0, .int .i64 0, .int .i64 0, .int .i64 0, .int .i64 0, .int .u64 0, .int .i64 0, .string ⟨#[]⟩, .int .i64 0, .int .i64 0, .string ⟨#[]⟩] 27 rfl rfl hb1)
  have hlt : w.heap.size < w1.heap.size := Nat.lt_of_lt_of_le (by simp) hb1.size
  have HLT := Lib.hid hlt
  generalize w1.alloc (.cells #[.int .i64 1, .int .u64 0, .int .u64 0, .int .u64 0, .slice none 0 0, .int .i64 0, .int .i64 0, .int .i64 0, .int .i64 0, .int .i64 0, .int .i64 0, .int .u64 0, .int .i64 0, .string ⟨#[]⟩, .int .i64 0, .int .i64 0, .string ⟨#[]⟩] 27) = V1 at *
  generalize w1.heap.size = bx at *
  clear hb1 d0 d1 d2 d3 d4 d5
  have c0 := HX.out.cell 0 _ rfl
  go_upto_region 5 with (fail)
  have K1 : ∀ V, (∃ cs, Box2 w.heap.size w w.heap.size bx cs V) → V.cell? ⟨b, o + 6, none⟩ = some (.int .u64 (nn : Int)) := fun V ⟨_, h⟩ => (h.bel.cell (p := ⟨b, o + 6, none⟩) hb).trans e1
  have K2 : ∀ V, (∃ cs, Box2 w.heap.size w w.heap.size bx cs V) → V.cell? ⟨b, o + 12, none⟩ = some (.int .u64 (ec : Int)) := fun V ⟨_, h⟩ => (h.bel.cell (p := ⟨b, o + 12, none⟩) hb).trans e2
  clear e1 e2 c0
  refine wp_region_held_drew (S := fun V => ∃ cs, Box2 w.heap.size w w.heap.size bx cs V) (by kernel_rfl) ⟨_, HX.out.drew⟩ (fun hH => ?_)
  have HX0 := Lib.hid HX.out.drew
  generalize V1.drew = V0 at *
  refine tk 0 (by assumption) rfl (by kernel_rfl) (fun _ _ _ h => h) (fun V hV => by go_simp; try with_reducible rfl) ?_
  try simp only [Act.put, List.setIfInBounds_toArray, List.set_cons_zero, List.set_cons_succ, List.getElem_toArray, List.getElem_cons_succ, List.getElem_cons_zero]
  refine tk 1 (by assumption) rfl (by kernel_rfl) (fun _ _ _ h => h) (fun V hV => by go_simp; try with_reducible rfl) ?_
  try simp only [Act.put, List.setIfInBounds_toArray, List.set_cons_zero, List.set_cons_succ, List.getElem_toArray, List.getElem_cons_succ, List.getElem_cons_zero]
  refine tk 2 (by assumption) rfl (by kernel_rfl) (fun _ _ _ h => h) (fun V hV => by go_simp; try with_reducible rfl) ?_
  try simp only [Act.put, List.setIfInBounds_toArray, List.set_cons_zero, List.set_cons_succ, List.getElem_toArray, List.getElem_cons_succ, List.getElem_cons_zero]
  refine tk 3 (by assumption) rfl (by kernel_rfl) (fun _ _ _ h => h) (fun V hV => by have hc := K1 V hV; go_simp; try with_reducible rfl) ?_
  try simp only [Act.put, List.setIfInBounds_toArray, List.set_cons_zero, List.set_cons_succ, List.getElem_toArray, List.getElem_cons_succ, List.getElem_cons_zero]
  refine tk 4 (by assumption) rfl (by kernel_rfl) (fun _ _ _ h => h) (fun V hV => by go_simp; try with_reducible rfl) ?_
  try simp only [Act.put, List.setIfInBounds_toArray, List.set_cons_zero, List.set_cons_succ, List.getElem_toArray, List.getElem_cons_succ, List.getElem_cons_zero]
  refine tk 5 (by assumption) rfl (by kernel_rfl) (fun _ _ _ h => h) (fun V hV => by go_simp; try with_reducible rfl) ?_
  try simp only [Act.put, List.setIfInBounds_toArray, List.set_cons_zero, List.set_cons_succ, List.getElem_toArray, List.getElem_cons_succ, List.getElem_cons_zero]
  refine tk 6 (by assumption) rfl (by kernel_rfl) (fun _ _ _ h => h) (fun V hV => by go_simp; try with_reducible rfl) ?_
  try simp only [Act.put, List.setIfInBounds_toArray, List.set_cons_zero, List.set_cons_succ, List.getElem_toArray, List.getElem_cons_succ, List.getElem_cons_zero]
  refine tk 7 (by assumption) rfl (by kernel_rfl) (fun _ _ _ h => h) (fun V hV => by have hc := K2 V hV; go_simp; try with_reducible rfl) ?_
  try simp only [Act.put, List.setIfInBounds_toArray, List.set_cons_zero, List.set_cons_succ, List.getElem_toArray, List.getElem_cons_succ, List.getElem_cons_zero]
  refine tk 8 (by assumption) rfl (by kernel_rfl) (fun _ _ _ h => h) (fun V hV => by go_simp; try with_reducible rfl) ?_
  try simp only [Act.put, List.setIfInBounds_toArray, List.set_cons_zero, List.set_cons_succ, List.getElem_toArray, List.getElem_cons_succ, List.getElem_cons_zero]
  have q1 := HX0.out.cell 1 _ rfl
  have q2 := HX0.out.frozen 1 (by omega)
  refine wpAnyH_ready (rs := [9]) (by kernel_rfl) (by simp) ?_
  refine AllReadyH.cons (o := _) rfl (fun K hK => ?_) AllReadyH.nil
  go_simp
  have HXa : Hid (Box2 w.heap.size w w.heap.size bx [.int .i64 1, .int .u64 (nn : Int), .int .u64 0, .int .u64 0, .slice none 0 0, .int .i64 0, .int .i64 0, .int .i64 0, .int .i64 0, .int .i64 0, .int .i64 0, .int .u64 0, .int .i64 0, .string ⟨#[]⟩, .int .i64 0, .int .i64 0, .string ⟨#[]⟩] (V0.setCell ⟨bx, 1, none⟩ (.int .u64 (nn : Int)))) := Lib.hid (HX0.out.sets (Nat.le_of_lt HLT.out) 1 [.int .u64 (nn : Int)] (by simp) rfl)
  generalize V0.setCell ⟨bx, 1, none⟩ (.int .u64 (nn : Int)) = Va at *
  refine hK.out _ _ ⟨_, HXa.out⟩ (fun hH => ?_)
  clear hK K q1 q2
  try simp only [Act.put, List.setIfInBounds_toArray, List.set_cons_zero, List.set_cons_succ, List.getElem_toArray, List.getElem_cons_succ, List.getElem_cons_zero]
  refine tk 10 (by assumption) rfl (by kernel_rfl) (fun _ _ _ h => h) (fun V hV => by go_simp; try with_reducible rfl) ?_
  try simp only [Act.put, List.setIfInBounds_toArray, List.set_cons_zero, List.set_cons_succ, List.getElem_toArray, List.getElem_cons_succ, List.getElem_cons_zero]
  have q1 := HXa.out.cell 2 _ rfl
  have q2 := HXa.out.frozen 2 (by omega)
  refine wpAnyH_ready (rs := [11]) (by kernel_rfl) (by simp) ?_
  refine AllReadyH.cons (o := _) rfl (fun K hK => ?_) AllReadyH.nil
  go_simp
  have HXb : Hid (Box2 w.heap.size w w.heap.size bx [.int .i64 1, .int .u64 (nn : Int), .int .u64 (ec : Int), .int .u64 0, .slice none 0 0, .int .i64 0, .int .i64 0, .int .i64 0, .int .i64 0, .int .i64 0, .int .i64 0, .int .u64 0, .int .i64 0, .string ⟨#[]⟩, .int .i64 0, .int .i64 0, .string ⟨#[]⟩] (Va.setCell ⟨bx, 2, none⟩ (.int .u64 (ec : Int)))) := Lib.hid (HXa.out.sets (Nat.le_of_lt HLT.out) 2 [.int .u64 (ec : Int)] (by simp) rfl)
  generalize Va.setCell ⟨bx, 2, none⟩ (.int .u64 (ec : Int)) = Vb at *
  refine hK.out _ _ ⟨_, HXb.out⟩ (fun hH => ?_)
  clear hK K q1 q2
  try simp only [Act.put, List.setIfInBounds_toArray, List.set_cons_zero, List.set_cons_succ, List.getElem_toArray, List.getElem_cons_succ, List.getElem_cons_zero]
  refine wpAnyH_done (by kernel_rfl) ?_ _
  clear K1 K2
  have c0 := HXb.out.cell 0 _ rfl
  go_upto_region 10 with (fail)
  clear c0
  refine wp_region_list ?_
  refine wpList_load_guard (by kernel_rfl) 27 (.tmp 3) rfl bx 0 rfl [.int .i64 1, .int .u64 (nn : Int), .int .u64 (ec : Int), .int .u64 0, .slice none 0 0, .int .i64 0, .int .i64 0, .int .i64 0, .int .i64 0, .int .i64 0, .int .i64 0, .int .u64 0, .int .i64 0, .string ⟨#[]⟩, .int .i64 0, .int .i64 0, .string ⟨#[]⟩] _ HXb.out.at_ Tryz.underlying27 (by rfl) (by kernel_rfl) ?_
  try simp only [Act.put, List.setIfInBounds_toArray, List.set_cons_zero, List.set_cons_succ, List.getElem_toArray, List.getElem_cons_succ, List.getElem_cons_zero]
  refine wpList_store_mid rfl 27 _ _ rfl w.heap.size 0 #[.int .i64 1, .int .u64 (nn : Int), .int .u64 (ec : Int), .int .u64 0, .slice none 0 0, .int .i64 0, .int .i64 0, .int .i64 0, .int .i64 0, .int .i64 0, .int .i64 0, .int .u64 0, .int .i64 0, .string ⟨#[]⟩, .int .i64 0, .int .i64 0, .string ⟨#[]⟩] rfl rfl HXb.out.t2 (by kernel_rfl) (all_oneCell_toArray (cs := [.int .i64 1, .int .u64 (nn : Int), .int .u64 (ec : Int), .int .u64 0, .slice none 0 0, .int .i64 0, .int .i64 0, .int .i64 0, .int .i64 0, .int .i64 0, .int .i64 0, .int .u64 0, .int .i64 0, .string ⟨#[]⟩, .int .i64 0, .int .i64 0, .string ⟨#[]⟩]) (by intro v hv; simp only [List.mem_cons, List.not_mem_nil, or_false] at hv; rcases hv with rfl | rfl | rfl | rfl | rfl | rfl | rfl | rfl | rfl | rfl | rfl | rfl | rfl | rfl | rfl | rfl | rfl <;> rfl)) ?_
  obtain ⟨R, hbl⟩ := HXb.out.out (Nat.le_refl _) rfl
  generalize Vb.setCells w.heap.size 0 [.int .i64 1, .int .u64 (nn : Int), .int .u64 (ec : Int), .int .u64 0, .slice none 0 0, .int .i64 0, .int .i64 0, .int .i64 0, .int .i64 0, .int .i64 0, .int .i64 0, .int .u64 0, .int .i64 0, .string ⟨#[]⟩, .int .i64 0, .int .i64 0, .string ⟨#[]⟩] = Vz at *
  try simp only [Act.put, List.setIfInBounds_toArray, List.set_cons_zero, List.set_cons_succ, List.getElem_toArray, List.getElem_cons_succ, List.getElem_cons_zero]
  refine wpList_nil ?_
  go_wp2_with fail
  refine bodyPost_ret (results_cell Tryz.results28 _ Vz w.heap.size 0 [.int .i64 1, .int .u64 (nn : Int), .int .u64 (ec : Int), .int .u64 0, .slice none 0 0, .int .i64 0, .int .i64 0, .int .i64 0, .int .i64 0, .int .i64 0, .int .i64 0, .int .u64 0, .int .i64 0, .string ⟨#[]⟩, .int .i64 0, .int .i64 0, .string ⟨#[]⟩] _ rfl R Tryz.underlying27 (by rfl) (by kernel_rfl)) rfl ?_
  exact ⟨none, 0, rfl, World.ownsRow_nil _ _ _ _, hbl⟩

set_option maxHeartbeats 4000000 in
theorem mMsOf_2 (u0 : Nat) (i0 : Int) (f0 : Nat) (b0 : Bool) (t0 : ByteArray) (a0 : Option Addr) (n0 c0 : Nat) (nn ec : Nat) (sq : Nat) (ra : Option Addr) (rn rc : Nat) (l : List Nw) (b o c : Nat) (w : World) (hb : b < w.heap.size)
    (e0 : w.rangeAt b o (fvals u0 i0 f0 b0 t0 a0 n0 c0)) (HW : ∀ W, Calls Tryz.prog 55 #[.agg (fvals u0 i0 f0 b0 t0 a0 n0 c0).toArray] W fun e w' => e = .returned (.int .i64 2) ∧ Below W.heap.size W w')
    (e1 : w.cell? ⟨b, o + 6, none⟩ = some (.int .u64 (nn : Int))) (e2 : w.cell? ⟨b, o + 12, none⟩ = some (.int .u64 (ec : Int)))
    (e3 : w.cell? ⟨b, o + 18, none⟩ = some (.int .u64 (sq : Int)))
    (e4 : w.cell? ⟨b, o + 29, none⟩ = some (.slice ra rn rc)) (HN : ∀ W, Below w.heap.size w W → Calls Tryz.prog 57 #[.slice ra rn rc] W (NewsEnds W l))
    : Calls Tryz.prog 28 #[.slice (some ⟨b, o, none⟩) 5 c] w (MsEnds w ⟨2, nn, ec, sq, l, pkZ⟩) := by
  have HW0 := Lib.hid HW
  clear HW
  have HN0 := Lib.hid HN
  clear HN
  have d0 := e0 0 _ rfl
  have d1 := e0 1 _ rfl
  have d2 := e0 2 _ rfl
  have d3 := e0 3 _ rfl
  have d4 := e0 4 _ rfl
  have d5 := e0 5 _ rfl
  simp only [Nat.add_zero] at d0 d1 d2 d3 d4 d5
  have E0 := Lib.hid e0
  clear e0
  go_enter Tryz.func28, Tryz.ntmps28
  go_upto_region 1 with (fail)
  go_upto_region 2 with (go_at_call 55; refine (HW0.out _).mono ?_; rintro e w1 ⟨rfl, hb1⟩)
  have HX := Lib.hid (box2_new w w1 [.int .i64 2, .int .u64 0, .int .u64 0, .int .u64 0, .slice none 0 0, .int .i64 0, .int .i64 0, .int .i64 0, .int .i64 0, .int .i64 0, .int .i64 0, .int .u64 0, .int .i64 0, .string ⟨#[]⟩, .int .i64 0, .int .i64 0, .string ⟨#[]⟩] [.int .i64 0, .int .u64 0, .int .u64 0, .int .u64 0, .slice none 0 0, .int .i64 0, .int .i64 0, .int .i64 0, .int .i64 0, .int .i64 0, .int .i64 0, .int .u64 0, .int .i64 0, .string ⟨#[]⟩, .int .i64 0, .int .i64 0, .string ⟨#[]⟩] 27 rfl rfl hb1)
  have hlt : w.heap.size < w1.heap.size := Nat.lt_of_lt_of_le (by simp) hb1.size
  have HLT := Lib.hid hlt
  generalize w1.alloc (.cells #[.int .i64 2, .int .u64 0, .int .u64 0, .int .u64 0, .slice none 0 0, .int .i64 0, .int .i64 0, .int .i64 0, .int .i64 0, .int .i64 0, .int .i64 0, .int .u64 0, .int .i64 0, .string ⟨#[]⟩, .int .i64 0, .int .i64 0, .string ⟨#[]⟩] 27) = V1 at *
  generalize w1.heap.size = bx at *
  clear hb1 d0 d1 d2 d3 d4 d5
  have c0 := HX.out.cell 0 _ rfl
  go_upto_region 5 with (fail)
  have K1 : ∀ V, (∃ cs, Box2 w.heap.size w w.heap.size bx cs V) → V.cell? ⟨b, o + 6, none⟩ = some (.int .u64 (nn : Int)) := fun V ⟨_, h⟩ => (h.bel.cell (p := ⟨b, o + 6, none⟩) hb).trans e1
  have K2 : ∀ V, (∃ cs, Box2 w.heap.size w w.heap.size bx cs V) → V.cell? ⟨b, o + 12, none⟩ = some (.int .u64 (ec : Int)) := fun V ⟨_, h⟩ => (h.bel.cell (p := ⟨b, o + 12, none⟩) hb).trans e2
  clear e1 e2 c0
  refine wp_region_held_drew (S := fun V => ∃ cs, Box2 w.heap.size w w.heap.size bx cs V) (by kernel_rfl) ⟨_, HX.out.drew⟩ (fun hH => ?_)
  have HX0 := Lib.hid HX.out.drew
  generalize V1.drew = V0 at *
  refine tk 0 (by assumption) rfl (by kernel_rfl) (fun _ _ _ h => h) (fun V hV => by go_simp; try with_reducible rfl) ?_
  try simp only [Act.put, List.setIfInBounds_toArray, List.set_cons_zero, List.set_cons_succ, List.getElem_toArray, List.getElem_cons_succ, List.getElem_cons_zero]
  refine tk 1 (by assumption) rfl (by kernel_rfl) (fun _ _ _ h => h) (fun V hV => by go_simp; try with_reducible rfl) ?_
  try simp only [Act.put, List.setIfInBounds_toArray, List.set_cons_zero, List.set_cons_succ, List.getElem_toArray, List.getElem_cons_succ, List.getElem_cons_zero]
  refine tk 2 (by assumption) rfl (by kernel_rfl) (fun _ _ _ h => h) (fun V hV => by go_simp; try with_reducible rfl) ?_
  try simp only [Act.put, List.setIfInBounds_toArray, List.set_cons_zero, List.set_cons_succ, List.getElem_toArray, List.getElem_cons_succ, List.getElem_cons_zero]
  refine tk 3 (by assumption) rfl (by kernel_rfl) (fun _ _ _ h => h) (fun V hV => by have hc := K1 V hV; go_simp; try with_reducible rfl) ?_
  try simp only [Act.put, List.setIfInBounds_toArray, List.set_cons_zero, List.set_cons_succ, List.getElem_toArray, List.getElem_cons_succ, List.getElem_cons_zero]
  refine tk 4 (by assumption) rfl (by kernel_rfl) (fun _ _ _ h => h) (fun V hV => by go_simp; try with_reducible rfl) ?_
  try simp only [Act.put, List.setIfInBounds_toArray, List.set_cons_zero, List.set_cons_succ, List.getElem_toArray, List.getElem_cons_succ, List.getElem_cons_zero]
  refine tk 5 (by assumption) rfl (by kernel_rfl) (fun _ _ _ h => h) (fun V hV => by go_simp; try with_reducible rfl) ?_
  try simp only [Act.put, List.setIfInBounds_toArray, List.set_cons_zero, List.set_cons_succ, List.getElem_toArray, List.getElem_cons_succ, List.getElem_cons_zero]
  refine tk 6 (by assumption) rfl (by kernel_rfl) (fun _ _ _ h => h) (fun V hV => by go_simp; try with_reducible rfl) ?_
  try simp only [Act.put, List.setIfInBounds_toArray, List.set_cons_zero, List.set_cons_succ, List.getElem_toArray, List.getElem_cons_succ, List.getElem_cons_zero]
  refine tk 7 (by assumption) rfl (by kernel_rfl) (fun _ _ _ h => h) (fun V hV => by have hc := K2 V hV; go_simp; try with_reducible rfl) ?_
  try simp only [Act.put, List.setIfInBounds_toArray, List.set_cons_zero, List.set_cons_succ, List.getElem_toArray, List.getElem_cons_succ, List.getElem_cons_zero]
  refine tk 8 (by assumption) rfl (by kernel_rfl) (fun _ _ _ h => h) (fun V hV => by go_simp; try with_reducible rfl) ?_
  try simp only [Act.put, List.setIfInBounds_toArray, List.set_cons_zero, List.set_cons_succ, List.getElem_toArray, List.getElem_cons_succ, List.getElem_cons_zero]
  have q1 := HX0.out.cell 1 _ rfl
  have q2 := HX0.out.frozen 1 (by omega)
  refine wpAnyH_ready (rs := [9]) (by kernel_rfl) (by simp) ?_
  refine AllReadyH.cons (o := _) rfl (fun K hK => ?_) AllReadyH.nil
  go_simp
  have HXa : Hid (Box2 w.heap.size w w.heap.size bx [.int .i64 2, .int .u64 (nn : Int), .int .u64 0, .int .u64 0, .slice none 0 0, .int .i64 0, .int .i64 0, .int .i64 0, .int .i64 0, .int .i64 0, .int .i64 0, .int .u64 0, .int .i64 0, .string ⟨#[]⟩, .int .i64 0, .int .i64 0, .string ⟨#[]⟩] (V0.setCell ⟨bx, 1, none⟩ (.int .u64 (nn : Int)))) := Lib.hid (HX0.out.sets (Nat.le_of_lt HLT.out) 1 [.int .u64 (nn : Int)] (by simp) rfl)
  generalize V0.setCell ⟨bx, 1, none⟩ (.int .u64 (nn : Int)) = Va at *
  refine hK.out _ _ ⟨_, HXa.out⟩ (fun hH => ?_)
  clear hK K q1 q2
  try simp only [Act.put, List.setIfInBounds_toArray, List.set_cons_zero, List.set_cons_succ, List.getElem_toArray, List.getElem_cons_succ, List.getElem_cons_zero]
  refine tk 10 (by assumption) rfl (by kernel_rfl) (fun _ _ _ h => h) (fun V hV => by go_simp; try with_reducible rfl) ?_
  try simp only [Act.put, List.setIfInBounds_toArray, List.set_cons_zero, List.set_cons_succ, List.getElem_toArray, List.getElem_cons_succ, List.getElem_cons_zero]
  have q1 := HXa.out.cell 2 _ rfl
  have q2 := HXa.out.frozen 2 (by omega)
  refine wpAnyH_ready (rs := [11]) (by kernel_rfl) (by simp) ?_
  refine AllReadyH.cons (o := _) rfl (fun K hK => ?_) AllReadyH.nil
  go_simp
  have HXb : Hid (Box2 w.heap.size w w.heap.size bx [.int .i64 2, .int .u64 (nn : Int), .int .u64 (ec : Int), .int .u64 0, .slice none 0 0, .int .i64 0, .int .i64 0, .int .i64 0, .int .i64 0, .int .i64 0, .int .i64 0, .int .u64 0, .int .i64 0, .string ⟨#[]⟩, .int .i64 0, .int .i64 0, .string ⟨#[]⟩] (Va.setCell ⟨bx, 2, none⟩ (.int .u64 (ec : Int)))) := Lib.hid (HXa.out.sets (Nat.le_of_lt HLT.out) 2 [.int .u64 (ec : Int)] (by simp) rfl)
  generalize Va.setCell ⟨bx, 2, none⟩ (.int .u64 (ec : Int)) = Vb at *
  refine hK.out _ _ ⟨_, HXb.out⟩ (fun hH => ?_)
  clear hK K q1 q2
  try simp only [Act.put, List.setIfInBounds_toArray, List.set_cons_zero, List.set_cons_succ, List.getElem_toArray, List.getElem_cons_succ, List.getElem_cons_zero]
  refine wpAnyH_done (by kernel_rfl) ?_ _
  clear K1 K2
  have c0 := HXb.out.cell 0 _ rfl
  have c3 := HXb.out.cell 3 _ rfl
  have z3 := HXb.out.frozen 3 (by omega)
  have k3 := (HXb.out.bel.cell (p := ⟨b, o + 18, none⟩) hb).trans e3
  go_upto_region 8 with (fail)
  have HXc : Hid (Box2 w.heap.size w w.heap.size bx [.int .i64 2, .int .u64 (nn : Int), .int .u64 (ec : Int), .int .u64 (sq : Int), .slice none 0 0, .int .i64 0, .int .i64 0, .int .i64 0, .int .i64 0, .int .i64 0, .int .i64 0, .int .u64 0, .int .i64 0, .string ⟨#[]⟩, .int .i64 0, .int .i64 0, .string ⟨#[]⟩] (Vb.setCell ⟨bx, 3, none⟩ (.int .u64 (sq : Int)))) := Lib.hid (HXb.out.sets (Nat.le_of_lt HLT.out) 3 [.int .u64 (sq : Int)] (by simp) rfl)
  generalize Vb.setCell ⟨bx, 3, none⟩ (.int .u64 (sq : Int)) = Vc at *
  clear c0 c3 z3 k3
  have c0 := HXc.out.cell 0 _ rfl
  go_upto_region 9 with (fail)
  clear c0
  have k4 := (HXc.out.bel.cell (p := ⟨b, o + 29, none⟩) hb).trans e4
  have hBV : w.heap.size ≤ Vc.heap.size := Nat.le_of_lt (Nat.lt_trans HLT.out HXc.out.hx)
  go_wp2_with fail
  refine (HN0.out _ HXc.out.bel).mono ?_
  rintro e Vd ⟨na, nc, rfl, hown, hbd⟩
  have HXd := Lib.hid (HXc.out.next hbd hBV)
  have HOWN : Hid (NewsOwn Vd w.heap.size l na nc) := Lib.hid (own_le hown hBV)
  have HNE : Hid (∀ g, (Value.slice na l.length nc).ownBlock = some g → g ≠ bx ∧ g ≠ w.heap.size) := Lib.hid (fun g hg => by have h1 := (hown.lt g hg).1; have h2 := HXc.out.hx; have h3 := HXc.out.hr; exact ⟨by omega, by omega⟩)
  clear hown hbd k4
  have c4 := HXd.out.cell 4 _ rfl
  have z4 := HXd.out.frozen 4 (by omega)
  go_upto_region 10 with (fail)
  have HOWN2 : Hid (NewsOwn (Vd.setCell ⟨bx, 4, none⟩ (.slice na l.length nc)) w.heap.size l na nc) := Lib.hid (own_off [.slice na l.length nc] HOWN.out (fun e => (HNE.out bx e).1 rfl))
  have HXe : Hid (Box2 w.heap.size w w.heap.size bx [.int .i64 2, .int .u64 (nn : Int), .int .u64 (ec : Int), .int .u64 (sq : Int), .slice na l.length nc, .int .i64 0, .int .i64 0, .int .i64 0, .int .i64 0, .int .i64 0, .int .i64 0, .int .u64 0, .int .i64 0, .string ⟨#[]⟩, .int .i64 0, .int .i64 0, .string ⟨#[]⟩] (Vd.setCell ⟨bx, 4, none⟩ (.slice na l.length nc))) := Lib.hid (HXd.out.sets (Nat.le_of_lt HLT.out) 4 [.slice na l.length nc] (by simp) rfl)
  generalize Vd.setCell ⟨bx, 4, none⟩ (.slice na l.length nc) = Ve at *
  clear c4 z4
  refine wp_region_list ?_
  refine wpList_load_guard (by kernel_rfl) 27 (.tmp 3) rfl bx 0 rfl [.int .i64 2, .int .u64 (nn : Int), .int .u64 (ec : Int), .int .u64 (sq : Int), .slice na l.length nc, .int .i64 0, .int .i64 0, .int .i64 0, .int .i64 0, .int .i64 0, .int .i64 0, .int .u64 0, .int .i64 0, .string ⟨#[]⟩, .int .i64 0, .int .i64 0, .string ⟨#[]⟩] _ HXe.out.at_ Tryz.underlying27 (by rfl) (by kernel_rfl) ?_
  try simp only [Act.put, List.setIfInBounds_toArray, List.set_cons_zero, List.set_cons_succ, List.getElem_toArray, List.getElem_cons_succ, List.getElem_cons_zero]
  refine wpList_store_mid rfl 27 _ _ rfl w.heap.size 0 #[.int .i64 2, .int .u64 (nn : Int), .int .u64 (ec : Int), .int .u64 (sq : Int), .slice na l.length nc, .int .i64 0, .int .i64 0, .int .i64 0, .int .i64 0, .int .i64 0, .int .i64 0, .int .u64 0, .int .i64 0, .string ⟨#[]⟩, .int .i64 0, .int .i64 0, .string ⟨#[]⟩] rfl rfl HXe.out.t2 (by kernel_rfl) (all_oneCell_toArray (cs := [.int .i64 2, .int .u64 (nn : Int), .int .u64 (ec : Int), .int .u64 (sq : Int), .slice na l.length nc, .int .i64 0, .int .i64 0, .int .i64 0, .int .i64 0, .int .i64 0, .int .i64 0, .int .u64 0, .int .i64 0, .string ⟨#[]⟩, .int .i64 0, .int .i64 0, .string ⟨#[]⟩]) (by intro v hv; simp only [List.mem_cons, List.not_mem_nil, or_false] at hv; rcases hv with rfl | rfl | rfl | rfl | rfl | rfl | rfl | rfl | rfl | rfl | rfl | rfl | rfl | rfl | rfl | rfl | rfl <;> rfl)) ?_
  obtain ⟨R, hbl⟩ := HXe.out.out (Nat.le_refl _) rfl
  have hown := own_off0 [.int .i64 2, .int .u64 (nn : Int), .int .u64 (ec : Int), .int .u64 (sq : Int), .slice na l.length nc, .int .i64 0, .int .i64 0, .int .i64 0, .int .i64 0, .int .i64 0, .int .i64 0, .int .u64 0, .int .i64 0, .string ⟨#[]⟩, .int .i64 0, .int .i64 0, .string ⟨#[]⟩] HOWN2.out (fun e => (HNE.out w.heap.size e).2 rfl)
  generalize Ve.setCells w.heap.size 0 [.int .i64 2, .int .u64 (nn : Int), .int .u64 (ec : Int), .int .u64 (sq : Int), .slice na l.length nc, .int .i64 0, .int .i64 0, .int .i64 0, .int .i64 0, .int .i64 0, .int .i64 0, .int .u64 0, .int .i64 0, .string ⟨#[]⟩, .int .i64 0, .int .i64 0, .string ⟨#[]⟩] = Vz at *
  try simp only [Act.put, List.setIfInBounds_toArray, List.set_cons_zero, List.set_cons_succ, List.getElem_toArray, List.getElem_cons_succ, List.getElem_cons_zero]
  refine wpList_nil ?_
  go_wp2_with fail
  refine bodyPost_ret (results_cell Tryz.results28 _ Vz w.heap.size 0 [.int .i64 2, .int .u64 (nn : Int), .int .u64 (ec : Int), .int .u64 (sq : Int), .slice na l.length nc, .int .i64 0, .int .i64 0, .int .i64 0, .int .i64 0, .int .i64 0, .int .i64 0, .int .u64 0, .int .i64 0, .string ⟨#[]⟩, .int .i64 0, .int .i64 0, .string ⟨#[]⟩] _ rfl R Tryz.underlying27 (by rfl) (by kernel_rfl)) rfl ?_
  exact ⟨na, nc, rfl, hown, hbl⟩

set_option maxHeartbeats 4000000 in
theorem mMsOf_3 (u0 : Nat) (i0 : Int) (f0 : Nat) (b0 : Bool) (t0 : ByteArray) (a0 : Option Addr) (n0 c0 : Nat) (nn ec : Nat) (sq : Nat) (b o c : Nat) (w : World) (hb : b < w.heap.size)
    (e0 : w.rangeAt b o (fvals u0 i0 f0 b0 t0 a0 n0 c0)) (HW : ∀ W, Calls Tryz.prog 55 #[.agg (fvals u0 i0 f0 b0 t0 a0 n0 c0).toArray] W fun e w' => e = .returned (.int .i64 3) ∧ Below W.heap.size W w')
    (e1 : w.cell? ⟨b, o + 6, none⟩ = some (.int .u64 (nn : Int))) (e2 : w.cell? ⟨b, o + 12, none⟩ = some (.int .u64 (ec : Int)))
    (e3 : w.cell? ⟨b, o + 18, none⟩ = some (.int .u64 (sq : Int)))
    : Calls Tryz.prog 28 #[.slice (some ⟨b, o, none⟩) 4 c] w (MsEnds w ⟨3, nn, ec, sq, [], pkZ⟩) := by
  have HW0 := Lib.hid HW
  clear HW
  have d0 := e0 0 _ rfl
  have d1 := e0 1 _ rfl
  have d2 := e0 2 _ rfl
  have d3 := e0 3 _ rfl
  have d4 := e0 4 _ rfl
  have d5 := e0 5 _ rfl
  simp only [Nat.add_zero] at d0 d1 d2 d3 d4 d5
  have E0 := Lib.hid e0
  clear e0
  go_enter Tryz.func28, Tryz.ntmps28
  go_upto_region 1 with (fail)
  go_upto_region 2 with (go_at_call 55; refine (HW0.out _).mono ?_; rintro e w1 ⟨rfl, hb1⟩)
  have HX := Lib.hid (box2_new w w1 [.int .i64 3, .int .u64 0, .int .u64 0, .int .u64 0, .slice none 0 0, .int .i64 0, .int .i64 0, .int .i64 0, .int .i64 0, .int .i64 0, .int .i64 0, .int .u64 0, .int .i64 0, .string ⟨#[]⟩, .int .i64 0, .int .i64 0, .string ⟨#[]⟩] [.int .i64 0, .int .u64 0, .int .u64 0, .int .u64 0, .slice none 0 0, .int .i64 0, .int .i64 0, .int .i64 0, .int .i64 0, .int .i64 0, .int .i64 0, .int .u64 0, .int .i64 0, .string ⟨#[]⟩, .int .i64 0, .int .i64 0, .string ⟨#[]⟩] 27 rfl rfl hb1)
  have hlt : w.heap.size < w1.heap.size := Nat.lt_of_lt_of_le (by simp) hb1.size
  have HLT := Lib.hid hlt
  generalize w1.alloc (.cells #[.int .i64 3, .int .u64 0, .int .u64 0, .int .u64 0, .slice none 0 0, .int .i64 0, .int .i64 0, .int .i64 0, .int .i64 0, .int .i64 0, .int .i64 0, .int .u64 0, .int .i64 0, .string ⟨#[]⟩, .int .i64 0, .int .i64 0, .string ⟨#[]⟩] 27) = V1 at *
  generalize w1.heap.size = bx at *
  clear hb1 d0 d1 d2 d3 d4 d5
  have c0 := HX.out.cell 0 _ rfl
  go_upto_region 5 with (fail)
  have K1 : ∀ V, (∃ cs, Box2 w.heap.size w w.heap.size bx cs V) → V.cell? ⟨b, o + 6, none⟩ = some (.int .u64 (nn : Int)) := fun V ⟨_, h⟩ => (h.bel.cell (p := ⟨b, o + 6, none⟩) hb).trans e1
  have K2 : ∀ V, (∃ cs, Box2 w.heap.size w w.heap.size bx cs V) → V.cell? ⟨b, o + 12, none⟩ = some (.int .u64 (ec : Int)) := fun V ⟨_, h⟩ => (h.bel.cell (p := ⟨b, o + 12, none⟩) hb).trans e2
  clear e1 e2 c0
  refine wp_region_held_drew (S := fun V => ∃ cs, Box2 w.heap.size w w.heap.size bx cs V) (by kernel_rfl) ⟨_, HX.out.drew⟩ (fun hH => ?_)
  have HX0 := Lib.hid HX.out.drew
  generalize V1.drew = V0 at *
  refine tk 0 (by assumption) rfl (by kernel_rfl) (fun _ _ _ h => h) (fun V hV => by go_simp; try with_reducible rfl) ?_
  try simp only [Act.put, List.setIfInBounds_toArray, List.set_cons_zero, List.set_cons_succ, List.getElem_toArray, List.getElem_cons_succ, List.getElem_cons_zero]
  refine tk 1 (by assumption) rfl (by kernel_rfl) (fun _ _ _ h => h) (fun V hV => by go_simp; try with_reducible rfl) ?_
  try simp only [Act.put, List.setIfInBounds_toArray, List.set_cons_zero, List.set_cons_succ, List.getElem_toArray, List.getElem_cons_succ, List.getElem_cons_zero]
  refine tk 2 (by assumption) rfl (by kernel_rfl) (fun _ _ _ h => h) (fun V hV => by go_simp; try with_reducible rfl) ?_
  try simp only [Act.put, List.setIfInBounds_toArray, List.set_cons_zero, List.set_cons_succ, List.getElem_toArray, List.getElem_cons_succ, List.getElem_cons_zero]
  refine tk 3 (by assumption) rfl (by kernel_rfl) (fun _ _ _ h => h) (fun V hV => by have hc := K1 V hV; go_simp; try with_reducible rfl) ?_
  try simp only [Act.put, List.setIfInBounds_toArray, List.set_cons_zero, List.set_cons_succ, List.getElem_toArray, List.getElem_cons_succ, List.getElem_cons_zero]
  refine tk 4 (by assumption) rfl (by kernel_rfl) (fun _ _ _ h => h) (fun V hV => by go_simp; try with_reducible rfl) ?_
  try simp only [Act.put, List.setIfInBounds_toArray, List.set_cons_zero, List.set_cons_succ, List.getElem_toArray, List.getElem_cons_succ, List.getElem_cons_zero]
  refine tk 5 (by assumption) rfl (by kernel_rfl) (fun _ _ _ h => h) (fun V hV => by go_simp; try with_reducible rfl) ?_
  try simp only [Act.put, List.setIfInBounds_toArray, List.set_cons_zero, List.set_cons_succ, List.getElem_toArray, List.getElem_cons_succ, List.getElem_cons_zero]
  refine tk 6 (by assumption) rfl (by kernel_rfl) (fun _ _ _ h => h) (fun V hV => by go_simp; try with_reducible rfl) ?_
  try simp only [Act.put, List.setIfInBounds_toArray, List.set_cons_zero, List.set_cons_succ, List.getElem_toArray, List.getElem_cons_succ, List.getElem_cons_zero]
  refine tk 7 (by assumption) rfl (by kernel_rfl) (fun _ _ _ h => h) (fun V hV => by have hc := K2 V hV; go_simp; try with_reducible rfl) ?_
  try simp only [Act.put, List.setIfInBounds_toArray, List.set_cons_zero, List.set_cons_succ, List.getElem_toArray, List.getElem_cons_succ, List.getElem_cons_zero]
  refine tk 8 (by assumption) rfl (by kernel_rfl) (fun _ _ _ h => h) (fun V hV => by go_simp; try with_reducible rfl) ?_
  try simp only [Act.put, List.setIfInBounds_toArray, List.set_cons_zero, List.set_cons_succ, List.getElem_toArray, List.getElem_cons_succ, List.getElem_cons_zero]
  have q1 := HX0.out.cell 1 _ rfl
  have q2 := HX0.out.frozen 1 (by omega)
  refine wpAnyH_ready (rs := [9]) (by kernel_rfl) (by simp) ?_
  refine AllReadyH.cons (o := _) rfl (fun K hK => ?_) AllReadyH.nil
  go_simp
  have HXa : Hid (Box2 w.heap.size w w.heap.size bx [.int .i64 3, .int .u64 (nn : Int), .int .u64 0, .int .u64 0, .slice none 0 0, .int .i64 0, .int .i64 0, .int .i64 0, .int .i64 0, .int .i64 0, .int .i64 0, .int .u64 0, .int .i64 0, .string ⟨#[]⟩, .int .i64 0, .int .i64 0, .string ⟨#[]⟩] (V0.setCell ⟨bx, 1, none⟩ (.int .u64 (nn : Int)))) := Lib.hid (HX0.out.sets (Nat.le_of_lt HLT.out) 1 [.int .u64 (nn : Int)] (by simp) rfl)
  generalize V0.setCell ⟨bx, 1, none⟩ (.int .u64 (nn : Int)) = Va at *
  refine hK.out _ _ ⟨_, HXa.out⟩ (fun hH => ?_)
  clear hK K q1 q2
  try simp only [Act.put, List.setIfInBounds_toArray, List.set_cons_zero, List.set_cons_succ, List.getElem_toArray, List.getElem_cons_succ, List.getElem_cons_zero]
  refine tk 10 (by assumption) rfl (by kernel_rfl) (fun _ _ _ h => h) (fun V hV => by go_simp; try with_reducible rfl) ?_
  try simp only [Act.put, List.setIfInBounds_toArray, List.set_cons_zero, List.set_cons_succ, List.getElem_toArray, List.getElem_cons_succ, List.getElem_cons_zero]
  have q1 := HXa.out.cell 2 _ rfl
  have q2 := HXa.out.frozen 2 (by omega)
  refine wpAnyH_ready (rs := [11]) (by kernel_rfl) (by simp) ?_
  refine AllReadyH.cons (o := _) rfl (fun K hK => ?_) AllReadyH.nil
  go_simp
  have HXb : Hid (Box2 w.heap.size w w.heap.size bx [.int .i64 3, .int .u64 (nn : Int), .int .u64 (ec : Int), .int .u64 0, .slice none 0 0, .int .i64 0, .int .i64 0, .int .i64 0, .int .i64 0, .int .i64 0, .int .i64 0, .int .u64 0, .int .i64 0, .string ⟨#[]⟩, .int .i64 0, .int .i64 0, .string ⟨#[]⟩] (Va.setCell ⟨bx, 2, none⟩ (.int .u64 (ec : Int)))) := Lib.hid (HXa.out.sets (Nat.le_of_lt HLT.out) 2 [.int .u64 (ec : Int)] (by simp) rfl)
  generalize Va.setCell ⟨bx, 2, none⟩ (.int .u64 (ec : Int)) = Vb at *
  refine hK.out _ _ ⟨_, HXb.out⟩ (fun hH => ?_)
  clear hK K q1 q2
  try simp only [Act.put, List.setIfInBounds_toArray, List.set_cons_zero, List.set_cons_succ, List.getElem_toArray, List.getElem_cons_succ, List.getElem_cons_zero]
  refine wpAnyH_done (by kernel_rfl) ?_ _
  clear K1 K2
  have c0 := HXb.out.cell 0 _ rfl
  have c3 := HXb.out.cell 3 _ rfl
  have z3 := HXb.out.frozen 3 (by omega)
  have k3 := (HXb.out.bel.cell (p := ⟨b, o + 18, none⟩) hb).trans e3
  go_upto_region 8 with (fail)
  have HXc : Hid (Box2 w.heap.size w w.heap.size bx [.int .i64 3, .int .u64 (nn : Int), .int .u64 (ec : Int), .int .u64 (sq : Int), .slice none 0 0, .int .i64 0, .int .i64 0, .int .i64 0, .int .i64 0, .int .i64 0, .int .i64 0, .int .u64 0, .int .i64 0, .string ⟨#[]⟩, .int .i64 0, .int .i64 0, .string ⟨#[]⟩] (Vb.setCell ⟨bx, 3, none⟩ (.int .u64 (sq : Int)))) := Lib.hid (HXb.out.sets (Nat.le_of_lt HLT.out) 3 [.int .u64 (sq : Int)] (by simp) rfl)
  generalize Vb.setCell ⟨bx, 3, none⟩ (.int .u64 (sq : Int)) = Vc at *
  clear c0 c3 z3 k3
  have c0 := HXc.out.cell 0 _ rfl
  go_upto_region 10 with (fail)
  clear c0
  refine wp_region_list ?_
  refine wpList_load_guard (by kernel_rfl) 27 (.tmp 3) rfl bx 0 rfl [.int .i64 3, .int .u64 (nn : Int), .int .u64 (ec : Int), .int .u64 (sq : Int), .slice none 0 0, .int .i64 0, .int .i64 0, .int .i64 0, .int .i64 0, .int .i64 0, .int .i64 0, .int .u64 0, .int .i64 0, .string ⟨#[]⟩, .int .i64 0, .int .i64 0, .string ⟨#[]⟩] _ HXc.out.at_ Tryz.underlying27 (by rfl) (by kernel_rfl) ?_
  try simp only [Act.put, List.setIfInBounds_toArray, List.set_cons_zero, List.set_cons_succ, List.getElem_toArray, List.getElem_cons_succ, List.getElem_cons_zero]
  refine wpList_store_mid rfl 27 _ _ rfl w.heap.size 0 #[.int .i64 3, .int .u64 (nn : Int), .int .u64 (ec : Int), .int .u64 (sq : Int), .slice none 0 0, .int .i64 0, .int .i64 0, .int .i64 0, .int .i64 0, .int .i64 0, .int .i64 0, .int .u64 0, .int .i64 0, .string ⟨#[]⟩, .int .i64 0, .int .i64 0, .string ⟨#[]⟩] rfl rfl HXc.out.t2 (by kernel_rfl) (all_oneCell_toArray (cs := [.int .i64 3, .int .u64 (nn : Int), .int .u64 (ec : Int), .int .u64 (sq : Int), .slice none 0 0, .int .i64 0, .int .i64 0, .int .i64 0, .int .i64 0, .int .i64 0, .int .i64 0, .int .u64 0, .int .i64 0, .string ⟨#[]⟩, .int .i64 0, .int .i64 0, .string ⟨#[]⟩]) (by intro v hv; simp only [List.mem_cons, List.not_mem_nil, or_false] at hv; rcases hv with rfl | rfl | rfl | rfl | rfl | rfl | rfl | rfl | rfl | rfl | rfl | rfl | rfl | rfl | rfl | rfl | rfl <;> rfl)) ?_
  obtain ⟨R, hbl⟩ := HXc.out.out (Nat.le_refl _) rfl
  generalize Vc.setCells w.heap.size 0 [.int .i64 3, .int .u64 (nn : Int), .int .u64 (ec : Int), .int .u64 (sq : Int), .slice none 0 0, .int .i64 0, .int .i64 0, .int .i64 0, .int .i64 0, .int .i64 0, .int .i64 0, .int .u64 0, .int .i64 0, .string ⟨#[]⟩, .int .i64 0, .int .i64 0, .string ⟨#[]⟩] = Vz at *
  try simp only [Act.put, List.setIfInBounds_toArray, List.set_cons_zero, List.set_cons_succ, List.getElem_toArray, List.getElem_cons_succ, List.getElem_cons_zero]
  refine wpList_nil ?_
  go_wp2_with fail
  refine bodyPost_ret (results_cell Tryz.results28 _ Vz w.heap.size 0 [.int .i64 3, .int .u64 (nn : Int), .int .u64 (ec : Int), .int .u64 (sq : Int), .slice none 0 0, .int .i64 0, .int .i64 0, .int .i64 0, .int .i64 0, .int .i64 0, .int .i64 0, .int .u64 0, .int .i64 0, .string ⟨#[]⟩, .int .i64 0, .int .i64 0, .string ⟨#[]⟩] _ rfl R Tryz.underlying27 (by rfl) (by kernel_rfl)) rfl ?_
  exact ⟨none, 0, rfl, World.ownsRow_nil _ _ _ _, hbl⟩

set_option maxHeartbeats 4000000 in
theorem mMsOf_4 (u0 : Nat) (i0 : Int) (f0 : Nat) (b0 : Bool) (t0 : ByteArray) (a0 : Option Addr) (n0 c0 : Nat) (kd fr bk tw hm hp : Int) (sr : Nat) (cd : Int) (nm : ByteArray) (id at_ : Int) (bd : ByteArray) (b o c : Nat) (w : World) (hb : b < w.heap.size) (hc13 : 13 ≤ c)
    (e0 : w.rangeAt b o (fvals u0 i0 f0 b0 t0 a0 n0 c0)) (HW : ∀ W, Calls Tryz.prog 55 #[.agg (fvals u0 i0 f0 b0 t0 a0 n0 c0).toArray] W fun e w' => e = .returned (.int .i64 4) ∧ Below W.heap.size W w')
    (HP : ∀ W (cc : Nat), Below w.heap.size w W → Calls Tryz.prog 56 #[.slice (some ⟨b, o + 6, none⟩) 12 cc] W fun e w' => e = .returned (.agg #[.int .i64 kd, .int .i64 fr, .int .i64 bk, .int .i64 tw, .int .i64 hm, .int .i64 hp, .int .u64 (sr : Int), .int .i64 cd, .string nm, .int .i64 id, .int .i64 at_, .string bd]) ∧ Below W.heap.size W w')
    : Calls Tryz.prog 28 #[.slice (some ⟨b, o, none⟩) 13 c] w (MsEnds w ⟨4, 0, 0, 0, [], ⟨kd, fr, bk, tw, hm, hp, sr, cd, nm, id, at_, bd⟩⟩) := by
  have HW0 := Lib.hid HW
  clear HW
  have HP0 := Lib.hid HP
  clear HP
  have d0 := e0 0 _ rfl
  have d1 := e0 1 _ rfl
  have d2 := e0 2 _ rfl
  have d3 := e0 3 _ rfl
  have d4 := e0 4 _ rfl
  have d5 := e0 5 _ rfl
  simp only [Nat.add_zero] at d0 d1 d2 d3 d4 d5
  have E0 := Lib.hid e0
  clear e0
  go_enter Tryz.func28, Tryz.ntmps28
  go_upto_region 1 with (fail)
  go_upto_region 2 with (go_at_call 55; refine (HW0.out _).mono ?_; rintro e w1 ⟨rfl, hb1⟩)
  have HX := Lib.hid (box2_new w w1 [.int .i64 4, .int .u64 0, .int .u64 0, .int .u64 0, .slice none 0 0, .int .i64 0, .int .i64 0, .int .i64 0, .int .i64 0, .int .i64 0, .int .i64 0, .int .u64 0, .int .i64 0, .string ⟨#[]⟩, .int .i64 0, .int .i64 0, .string ⟨#[]⟩] [.int .i64 0, .int .u64 0, .int .u64 0, .int .u64 0, .slice none 0 0, .int .i64 0, .int .i64 0, .int .i64 0, .int .i64 0, .int .i64 0, .int .i64 0, .int .u64 0, .int .i64 0, .string ⟨#[]⟩, .int .i64 0, .int .i64 0, .string ⟨#[]⟩] 27 rfl rfl hb1)
  have hlt : w.heap.size < w1.heap.size := Nat.lt_of_lt_of_le (by simp) hb1.size
  have HLT := Lib.hid hlt
  generalize w1.alloc (.cells #[.int .i64 4, .int .u64 0, .int .u64 0, .int .u64 0, .slice none 0 0, .int .i64 0, .int .i64 0, .int .i64 0, .int .i64 0, .int .i64 0, .int .i64 0, .int .u64 0, .int .i64 0, .string ⟨#[]⟩, .int .i64 0, .int .i64 0, .string ⟨#[]⟩] 27) = V1 at *
  generalize w1.heap.size = bx at *
  clear hb1 d0 d1 d2 d3 d4 d5
  have c0 := HX.out.cell 0 _ rfl
  go_upto_region 3 with (fail)
  clear c0
  have hBV : w.heap.size ≤ V1.heap.size := Nat.le_of_lt (Nat.lt_trans HLT.out HX.out.hx)
  have hc1 : ¬ c = 1 := by omega
  refine wp_region_list ?_
  refine wpList_step (fun K hK0 => ?_)
  have hK := Lib.hid hK0
  clear hK0
  go_simp
  refine hK.out _ _ ?_
  clear hK K
  try simp only [Act.put, List.setIfInBounds_toArray, List.set_cons_zero, List.set_cons_succ, List.getElem_toArray, List.getElem_cons_succ, List.getElem_cons_zero]
  refine wpList_step (fun K hK0 => ?_)
  have hK := Lib.hid hK0
  clear hK0
  go_simp
  refine hK.out _ _ ?_
  clear hK K
  try simp only [Act.put, List.setIfInBounds_toArray, List.set_cons_zero, List.set_cons_succ, List.getElem_toArray, List.getElem_cons_succ, List.getElem_cons_zero]
  refine wpList_step (fun K hK0 => ?_)
  have hK := Lib.hid hK0
  clear hK0
  go_simp
  refine (HP0.out _ _ HX.out.bel).mono ?_
  rintro e Vb ⟨rfl, hb2⟩
  have HXa := Lib.hid (HX.out.next hb2 hBV)
  clear hb2
  go_wp2_with fail
  refine hK.out _ _ ?_
  clear hK K
  try simp only [Act.put, List.setIfInBounds_toArray, List.set_cons_zero, List.set_cons_succ, List.getElem_toArray, List.getElem_cons_succ, List.getElem_cons_zero]
  refine wpList_step (fun K hK0 => ?_)
  have hK := Lib.hid hK0
  clear hK0
  go_simp
  refine hK.out _ _ ?_
  clear hK K
  try simp only [Act.put, List.setIfInBounds_toArray, List.set_cons_zero, List.set_cons_succ, List.getElem_toArray, List.getElem_cons_succ, List.getElem_cons_zero]
  refine wpList_store_mid rfl 25 _ _ rfl bx 5 #[.int .i64 kd, .int .i64 fr, .int .i64 bk, .int .i64 tw, .int .i64 hm, .int .i64 hp, .int .u64 (sr : Int), .int .i64 cd, .string nm, .int .i64 id, .int .i64 at_, .string bd] (by first | rfl | simp) rfl (fun j hj => by have := HXa.out.t1 (5 + j) (by simp at hj; omega); simpa using this) (by kernel_rfl) (all_oneCell_toArray (cs := [.int .i64 kd, .int .i64 fr, .int .i64 bk, .int .i64 tw, .int .i64 hm, .int .i64 hp, .int .u64 (sr : Int), .int .i64 cd, .string nm, .int .i64 id, .int .i64 at_, .string bd]) (by intro v hv; simp only [List.mem_cons, List.not_mem_nil, or_false] at hv; rcases hv with rfl | rfl | rfl | rfl | rfl | rfl | rfl | rfl | rfl | rfl | rfl | rfl <;> rfl)) ?_
  have HXb : Hid (Box2 w.heap.size w w.heap.size bx [.int .i64 4, .int .u64 0, .int .u64 0, .int .u64 0, .slice none 0 0, .int .i64 kd, .int .i64 fr, .int .i64 bk, .int .i64 tw, .int .i64 hm, .int .i64 hp, .int .u64 (sr : Int), .int .i64 cd, .string nm, .int .i64 id, .int .i64 at_, .string bd] (Vb.setCells bx 5 [.int .i64 kd, .int .i64 fr, .int .i64 bk, .int .i64 tw, .int .i64 hm, .int .i64 hp, .int .u64 (sr : Int), .int .i64 cd, .string nm, .int .i64 id, .int .i64 at_, .string bd])) := Lib.hid (HXa.out.sets (Nat.le_of_lt HLT.out) 5 [.int .i64 kd, .int .i64 fr, .int .i64 bk, .int .i64 tw, .int .i64 hm, .int .i64 hp, .int .u64 (sr : Int), .int .i64 cd, .string nm, .int .i64 id, .int .i64 at_, .string bd] (by simp) rfl)
  generalize Vb.setCells bx 5 [.int .i64 kd, .int .i64 fr, .int .i64 bk, .int .i64 tw, .int .i64 hm, .int .i64 hp, .int .u64 (sr : Int), .int .i64 cd, .string nm, .int .i64 id, .int .i64 at_, .string bd] = Vc at *
  try simp only [Act.put, List.setIfInBounds_toArray, List.set_cons_zero, List.set_cons_succ, List.getElem_toArray, List.getElem_cons_succ, List.getElem_cons_zero]
  refine wpList_nil ?_
  go_upto_region 4 with (fail)
  refine wp_region_list ?_
  refine wpList_load_guard (by kernel_rfl) 27 (.tmp 3) rfl bx 0 rfl [.int .i64 4, .int .u64 0, .int .u64 0, .int .u64 0, .slice none 0 0, .int .i64 kd, .int .i64 fr, .int .i64 bk, .int .i64 tw, .int .i64 hm, .int .i64 hp, .int .u64 (sr : Int), .int .i64 cd, .string nm, .int .i64 id, .int .i64 at_, .string bd] _ HXb.out.at_ Tryz.underlying27 (by rfl) (by kernel_rfl) ?_
  try simp only [Act.put, List.setIfInBounds_toArray, List.set_cons_zero, List.set_cons_succ, List.getElem_toArray, List.getElem_cons_succ, List.getElem_cons_zero]
  refine wpList_store_mid rfl 27 _ _ rfl w.heap.size 0 #[.int .i64 4, .int .u64 0, .int .u64 0, .int .u64 0, .slice none 0 0, .int .i64 kd, .int .i64 fr, .int .i64 bk, .int .i64 tw, .int .i64 hm, .int .i64 hp, .int .u64 (sr : Int), .int .i64 cd, .string nm, .int .i64 id, .int .i64 at_, .string bd] rfl rfl HXb.out.t2 (by kernel_rfl) (all_oneCell_toArray (cs := [.int .i64 4, .int .u64 0, .int .u64 0, .int .u64 0, .slice none 0 0, .int .i64 kd, .int .i64 fr, .int .i64 bk, .int .i64 tw, .int .i64 hm, .int .i64 hp, .int .u64 (sr : Int), .int .i64 cd, .string nm, .int .i64 id, .int .i64 at_, .string bd]) (by intro v hv; simp only [List.mem_cons, List.not_mem_nil, or_false] at hv; rcases hv with rfl | rfl | rfl | rfl | rfl | rfl | rfl | rfl | rfl | rfl | rfl | rfl | rfl | rfl | rfl | rfl | rfl <;> rfl)) ?_
  obtain ⟨R, hbl⟩ := HXb.out.out (Nat.le_refl _) rfl
  generalize Vc.setCells w.heap.size 0 [.int .i64 4, .int .u64 0, .int .u64 0, .int .u64 0, .slice none 0 0, .int .i64 kd, .int .i64 fr, .int .i64 bk, .int .i64 tw, .int .i64 hm, .int .i64 hp, .int .u64 (sr : Int), .int .i64 cd, .string nm, .int .i64 id, .int .i64 at_, .string bd] = Vz at *
  try simp only [Act.put, List.setIfInBounds_toArray, List.set_cons_zero, List.set_cons_succ, List.getElem_toArray, List.getElem_cons_succ, List.getElem_cons_zero]
  refine wpList_nil ?_
  go_wp2_with fail
  refine bodyPost_ret (results_cell Tryz.results28 _ Vz w.heap.size 0 [.int .i64 4, .int .u64 0, .int .u64 0, .int .u64 0, .slice none 0 0, .int .i64 kd, .int .i64 fr, .int .i64 bk, .int .i64 tw, .int .i64 hm, .int .i64 hp, .int .u64 (sr : Int), .int .i64 cd, .string nm, .int .i64 id, .int .i64 at_, .string bd] _ rfl R Tryz.underlying27 (by rfl) (by kernel_rfl)) rfl ?_
  exact ⟨none, 0, rfl, World.ownsRow_nil _ _ _ _, hbl⟩
end Go.Proofs.YtidfgjgbigedeaaGreatDoor
