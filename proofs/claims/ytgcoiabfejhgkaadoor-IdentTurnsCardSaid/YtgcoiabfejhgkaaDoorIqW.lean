/- Wishes: a router's number and its score, sorted by who wants a name more. -/
import Derived.Test.YtgcoiabfejhgkaaDoorIqS
import Derived.Shelf.SlSortCmp.NoneTotal
namespace Go.Iq
open Go.RowKit Go.Sort Go.Lib Go.Shelf Go.Proofs

structure Wish where
  id : Int
  sc : Int
  okId : 1 ≤ id ∧ id ≤ 2147483647
  okSc : U64 sc
instance : Inhabited Wish := ⟨⟨1, 0, by omega, by unfold U64; omega⟩⟩
theorem Wish.ext' {x y : Wish} (h1 : x.id = y.id) (h2 : x.sc = y.sc) : x = y := by cases x; cases y; simp_all
def encW (x : Wish) : List Value := [.int .i64 x.id, .int .u64 x.sc]
def cfW (x y : Wish) : Int := wantC x.id x.sc y.id y.sc
def mkW (s z : Int) : Wish := if h : 1 ≤ z ∧ z ≤ 2147483647 then ⟨z, scoreI z s, h, scoreI_bd z s⟩ else default
theorem mkW_id {s z : Int} (h : idB z = true) : (mkW s z).id = z := by unfold mkW; rw [dif_pos (idB_iff.1 h)]
theorem mkW_sc {s z : Int} (h : idB z = true) : (mkW s z).sc = scoreI z s := by unfold mkW; rw [dif_pos (idB_iff.1 h)]
theorem lt_iff (x y : Wish) : ltOf cfW x y = true ↔ (y.sc < x.sc ∨ (x.sc = y.sc ∧ x.id < y.id)) := by
  unfold ltOf cfW; rw [decide_eq_true_eq]; exact wantC_neg _ _ _ _
theorem lt_no (x y : Wish) : ltOf cfW x y = false ↔ ¬ (y.sc < x.sc ∨ (x.sc = y.sc ∧ x.id < y.id)) := by rw [← lt_iff, Bool.not_eq_true]
theorem swoW : SWO (ltOf cfW) where
  irrefl x := by rw [lt_no]; omega
  trans x y z h1 h2 := by rw [lt_iff] at *; omega
  ntrans x y z h1 h2 := by rw [lt_no] at *; omega
theorem totalW (x y : Wish) (h1 : ltOf cfW x y = false) (h2 : ltOf cfW y x = false) : x = y := by
  rw [lt_no] at *
  have e1 : x.id = y.id := by omega
  have e2 : x.sc = y.sc := by omega
  exact Wish.ext' e1 e2

/-- The wishes of a list of numbers. -/
def wishes (s : Int) (zs : List Int) : Array Wish := (zs.map (mkW s)).toArray
theorem wishes_size (s : Int) (zs : List Int) : (wishes s zs).size = zs.length := by simp [wishes]
/-- The same, sorted. -/
def sortW (s : Int) (zs : List Int) : List Wish := (wishes s zs).toList.mergeSort fun x y => !(ltOf cfW) y x
theorem sortW_perm (s : Int) (zs : List Int) : (sortW s zs).Perm (zs.map (mkW s)) := by
  unfold sortW wishes; exact List.mergeSort_perm _ _
theorem sortW_length (s : Int) (zs : List Int) : (sortW s zs).length = zs.length := by rw [(sortW_perm s zs).length_eq, List.length_map]
theorem sortW_pair (s : Int) (zs : List Int) : (sortW s zs).Pairwise (fun x y => ltOf cfW y x = false) := by
  have := List.pairwise_mergeSort (le := fun x y : Wish => !(ltOf cfW) y x)
    (fun a b c h1 h2 => by simp only [Bool.not_eq_true'] at *; exact swoW.ntrans c b a h2 h1)
    (fun a b => by
      cases h : ltOf cfW b a
      · simp
      · simp only [Bool.not_true, Bool.false_or, Bool.not_eq_true']
        rw [lt_no]; rw [lt_iff] at h; omega) (wishes s zs).toList
  exact this.imp fun h => by simpa using h
/-- Their numbers, in their order. -/
def orderW (s : Int) (zs : List Int) : List Int := (sortW s zs).map Wish.id
theorem orderW_wanted (s : Int) (zs : List Int) (h1 : zs.all idB = true) (h2 : nodupB zs = true) : Wanted s zs (orderW s zs) := by
  have hp : (orderW s zs).Perm zs := by
    have := (sortW_perm s zs).map Wish.id
    rw [List.map_map] at this
    have e : zs.map (Wish.id ∘ mkW s) = zs := by
      conv => rhs; rw [← List.map_id zs]
      exact List.map_congr_left fun z hz => mkW_id (List.all_eq_true.1 h1 z hz)
    rwa [e] at this
  refine ⟨hp, ?_⟩
  have hn : (orderW s zs).Nodup := hp.nodup_iff.2 (by unfold nodupB at h2; simpa using h2)
  have hw : ∀ x ∈ sortW s zs, x.sc = scoreI x.id s := by
    intro x hx
    obtain ⟨z, hz, rfl⟩ := List.mem_map.1 ((sortW_perm s zs).mem_iff.1 hx)
    have hi := List.all_eq_true.1 h1 z hz
    rw [mkW_sc hi, mkW_id hi]
  unfold orderW at hn ⊢
  rw [List.pairwise_map]
  have hn' : (sortW s zs).Pairwise (fun x y => x.id ≠ y.id) := List.pairwise_map.1 hn
  have := (sortW_pair s zs).and hn'
  refine List.Pairwise.imp_of_mem ?_ this
  intro x y hx hy h
  obtain ⟨a, b⟩ := h
  rw [lt_no] at a
  rw [more_iff, ← hw x hx, ← hw y hy]
  omega

/-- Order's error and its answer. -/
def orderE (l : List UInt8) (zs : List Int) : Int := if nameB l = true then listE zs else 21
def orderR (l : List UInt8) (zs : List Int) : List Int := if orderE l zs = 0 then orderW (sumI l) zs else []
theorem orderE_name {l : List UInt8} {zs : List Int} (h : nameB l = false) : orderE l zs = 21 := by unfold orderE; rw [h]; rfl
theorem orderE_list {l : List UInt8} {zs : List Int} (h : nameB l = true) : orderE l zs = listE zs := by unfold orderE; rw [if_pos h]
theorem orderE_zero {l : List UInt8} {zs : List Int} (h : orderE l zs = 0) : nameB l = true ∧ listE zs = 0 := by
  cases hn : nameB l
  · rw [orderE_name hn] at h; omega
  · rw [orderE_list hn] at h; exact ⟨rfl, h⟩
theorem orderR_ok {l : List UInt8} {zs : List Int} (h : orderE l zs = 0) : orderR l zs = orderW (sumI l) zs := by unfold orderR; rw [if_pos h]
theorem orderR_no {l : List UInt8} {zs : List Int} (h : orderE l zs ≠ 0) : orderR l zs = [] := by unfold orderR; rw [if_neg h]
theorem orderW_length (s : Int) (zs : List Int) : (orderW s zs).length = zs.length := by unfold orderW; rw [List.length_map, sortW_length]
theorem orderR_le (l : List UInt8) (zs : List Int) : (orderR l zs).length ≤ zs.length := by
  unfold orderR
  split
  · rw [orderW_length]; exact Nat.le_refl _
  · simp
theorem listE_perm {l m : List Int} (h : l.Perm m) : listE l = listE m := by
  unfold listE
  rw [nodup_perm h]
  have : l.all idB = m.all idB := by
    rw [Bool.eq_iff_iff, List.all_eq_true, List.all_eq_true]
    exact ⟨fun g x hx => g x (h.mem_iff.2 hx), fun g x hx => g x (h.mem_iff.1 hx)⟩
  rw [this]
theorem orderE_perm {n : List UInt8} {l m : List Int} (h : l.Perm m) : orderE n l = orderE n m := by unfold orderE; rw [listE_perm h]
theorem orderR_perm {n : List UInt8} {l m : List Int} (h : l.Perm m) : orderR n l = orderR n m := by
  by_cases h0 : orderE n l = 0
  · have h1 : orderE n m = 0 := by rw [← orderE_perm h]; exact h0
    rw [orderR_ok h0, orderR_ok h1]
    have a := listE_zero (orderE_zero h0).2
    have b := listE_zero (orderE_zero h1).2
    exact wanted_unique (orderW_wanted _ _ a.1 a.2) (orderW_wanted _ _ b.1 b.2) h
  · rw [orderR_no h0, orderR_no (by rw [← orderE_perm h]; exact h0)]
/-- Turned by so many places. -/
def turn (zs : List Int) (n r k : Nat) : List Int := (List.range k).map fun i => zs.getD ((i + r) % n) 0
theorem turn_snoc (zs : List Int) (n r k : Nat) : turn zs n r (k + 1) = turn zs n r k ++ [zs.getD ((k + r) % n) 0] := by
  unfold turn; rw [List.range_succ, List.map_append]; rfl
theorem turn_length (zs : List Int) (n r k : Nat) : (turn zs n r k).length = k := by unfold turn; simp
theorem turn_perm (zs : List Int) (n r : Nat) (hn : zs.length = n) : (turn zs n r n).Perm zs := by
  rcases Nat.eq_zero_or_pos n with h0 | h0
  · subst h0
    have : zs = [] := List.eq_nil_of_length_eq_zero hn
    subst this; exact List.Perm.refl _
  · have hr : r % n < n := Nat.mod_lt _ h0
    have e : turn zs n r n = zs.drop (r % n) ++ zs.take (r % n) := by
      refine List.ext_getElem? fun i => ?_
      by_cases hi : i < n
      · have e1 : (turn zs n r n)[i]? = some (zs.getD ((i + r) % n) 0) := by unfold turn; simp [hi]
        have e2 : (i + r) % n = (i + r % n) % n := by rw [Nat.add_mod, Nat.mod_eq_of_lt hi]
        rw [e1, e2]
        by_cases hs : i + r % n < n
        · rw [Nat.mod_eq_of_lt hs, List.getElem?_append_left (by simp; omega), List.getElem?_drop, getD_get _ _ _ (by omega), List.getElem?_eq_getElem (by omega)]
          congr 2; omega
        · have e3 : (i + r % n) % n = i + r % n - n := by
            rw [Nat.mod_eq_sub_mod (by omega), Nat.mod_eq_of_lt (by omega)]
          rw [e3, List.getElem?_append_right (by simp; omega), List.length_drop, List.getElem?_take, if_pos (by omega), getD_get _ _ _ (by omega), List.getElem?_eq_getElem (by omega)]
          congr 2; omega
      · rw [List.getElem?_eq_none (by rw [turn_length]; omega), List.getElem?_eq_none (by simp; omega)]
    rw [e]
    exact (List.perm_append_comm).trans (by rw [List.take_append_drop])
/-- What is told of the ones from a place on. -/
theorem drop_draw (l : List UInt8) (zs : List Int) (h : orderE l zs = 0) (i : Nat) (hi : i < zs.length) : drawE l ((orderR l zs).drop i) = 0 ∧ drawN l ((orderR l zs).drop i) = (orderR l zs).getD i 0 := by
  obtain ⟨h1, h2⟩ := orderE_zero h
  obtain ⟨h3, h4⟩ := listE_zero h2
  have hw := orderW_wanted (sumI l) zs h3 h4
  rw [orderR_ok h]
  have hl : i < (orderW (sumI l) zs).length := by rw [orderW_length]; exact hi
  have e0 : drawE l ((orderW (sumI l) zs).drop i) = 0 := by
    refine drawE_ok h1 (listE_ok ?_ ?_) (by simp; omega)
    · rw [List.all_eq_true]
      exact fun x hx => List.all_eq_true.1 h3 x (hw.1.mem_iff.1 (List.mem_of_mem_drop hx))
    · unfold nodupB
      rw [decide_eq_true_eq]
      have : (orderW (sumI l) zs).Nodup := hw.1.nodup_iff.2 (by unfold nodupB at h4; simpa using h4)
      exact this.sublist (List.drop_sublist _ _)
  exact ⟨e0, by rw [drawN_ok e0, wanted_head hw i hl]⟩

/-- What HoldsK asks, cell by cell. -/
theorem holdsK_of (w : World) (g n : Nat) (d : Array Wish) (hd : d.size = n) (h : ∀ i, i < n → w.cell? ⟨g, i * 2, none⟩ = some (.int .i64 d[i]!.id) ∧ w.cell? ⟨g, i * 2 + 1, none⟩ = some (.int .u64 d[i]!.sc)) (hf : ∀ j, w.frozen? ⟨g, j, none⟩ = false) : HoldsK encW 2 w g 0 d := by
  intro j hj
  have hj' : j < n * 2 := by simpa [hd] using hj
  rw [get_flatK encW 2 d j (by rw [hd]; exact hj')]
  refine ⟨?_, hf _⟩
  obtain ⟨h0, h1⟩ := h (j / 2) (by omega)
  rcases Nat.mod_two_eq_zero_or_one j with e | e
  · rw [e, show 0 + j = j / 2 * 2 by omega, h0]; rfl
  · rw [e, show 0 + j = j / 2 * 2 + 1 by omega, h1]; rfl
theorem cells_of_holdsK (w : World) (g n : Nat) (d : Array Wish) (hd : d.size = n) (h : HoldsK encW 2 w g 0 d) (i : Nat) (hi : i < n) : w.cell? ⟨g, i * 2, none⟩ = some (.int .i64 d[i]!.id) ∧ w.cell? ⟨g, i * 2 + 1, none⟩ = some (.int .u64 d[i]!.sc) := by
  have a := (h (i * 2) (by simp [hd]; omega)).1
  have b := (h (i * 2 + 1) (by simp [hd]; omega)).1
  rw [get_flatK encW 2 d _ (by rw [hd]; omega), Nat.zero_add] at a b
  rw [show i * 2 / 2 = i by omega, show i * 2 % 2 = 0 by omega] at a
  rw [show (i * 2 + 1) / 2 = i by omega, show (i * 2 + 1) % 2 = 1 by omega] at b
  exact ⟨a, b⟩
theorem below_sortWorldK {B : Nat} {w0 w : World} {g q : Nat} {d : Array Wish} {os : Array Obj} (h : Below B w0 w) (hg : B ≤ g) (hB : B ≤ w.heap.size) : Below B w0 (sortWorldK encW 2 w g 0 q d os) := by
  unfold sortWorldK putRowK
  refine below_grow (below_putRow h hg) os ?_
  simpa [putRow, mapBlock, Sort.ahead] using hB
end Go.Iq
