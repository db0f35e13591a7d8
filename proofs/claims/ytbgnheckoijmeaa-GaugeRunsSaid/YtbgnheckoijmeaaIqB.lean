/- Lists of routers: which may be, who wants a name most, in which order all want it. -/
import Derived.Test.YtbgnheckoijmeaaIqA
namespace Go.Iq

def nodupB (zs : List Int) : Bool := decide zs.Nodup
/-- Why a list of numbers may not be. -/
def listE (zs : List Int) : Int := if zs.all idB then (if nodupB zs then 0 else 72) else 20
theorem listE_id {zs : List Int} (h : zs.all idB = false) : listE zs = 20 := by unfold listE; rw [h]; rfl
theorem listE_dup {zs : List Int} (h : zs.all idB = true) (g : nodupB zs = false) : listE zs = 72 := by unfold listE; rw [h, g]; rfl
theorem listE_ok {zs : List Int} (h : zs.all idB = true) (g : nodupB zs = true) : listE zs = 0 := by unfold listE; rw [h, g]; rfl
theorem listE_zero {zs : List Int} (h : listE zs = 0) : zs.all idB = true ∧ nodupB zs = true := by
  unfold listE at h
  cases h1 : zs.all idB <;> rw [h1] at h
  · simp at h
  · cases h2 : nodupB zs <;> rw [h2] at h
    · simp at h
    · exact ⟨rfl, rfl⟩
theorem listE_cases (zs : List Int) : listE zs = 0 ∨ listE zs = 20 ∨ listE zs = 72 := by
  unfold listE; split
  · split <;> simp
  · simp

theorem getD_get {α : Type} (l : List α) (i : Nat) (d : α) (h : i < l.length) : l.getD i d = l[i] := by
  rw [List.getD_eq_getElem?_getD, List.getElem?_eq_getElem h]; rfl
theorem take_snocL {α : Type} (l : List α) (k : Nat) (d : α) (h : k < l.length) : l.take (k + 1) = l.take k ++ [l.getD k d] := by
  rw [List.take_succ_eq_append_getElem h, getD_get l k d h]
theorem all_takeL (zs : List Int) (k : Nat) (h : k < zs.length) : (zs.take (k + 1)).all idB = ((zs.take k).all idB && idB (zs.getD k 0)) := by
  rw [take_snocL zs k 0 h, List.all_append]; simp
theorem all_badL (zs : List Int) (k : Nat) (h : k < zs.length) (hb : idB (zs.getD k 0) = false) : zs.all idB = false := by
  rw [List.all_eq_false]
  exact ⟨zs.getD k 0, by rw [getD_get zs k 0 h]; exact List.getElem_mem _, by rw [hb]; simp⟩
theorem idB_at {zs : List Int} (h : zs.all idB = true) (k : Nat) (hk : k < zs.length) : idB (zs.getD k 0) = true := by
  rw [getD_get zs k 0 hk]; exact List.all_eq_true.1 h _ (List.getElem_mem _)

/-! Sorted, then neighbours. -/
def sortI (zs : List Int) : List Int := zs.mergeSort fun x y => decide (x ≤ y)
theorem sortI_perm (zs : List Int) : (sortI zs).Perm zs := List.mergeSort_perm _ _
theorem sortI_length (zs : List Int) : (sortI zs).length = zs.length := (sortI_perm zs).length_eq
theorem sortI_pair (zs : List Int) : (sortI zs).Pairwise (fun x y => x ≤ y) := by
  have := List.pairwise_mergeSort (le := fun x y : Int => decide (x ≤ y)) (fun a b c h1 h2 => by simp only [decide_eq_true_eq] at *; omega) (fun a b => by simp; omega) zs
  exact this.imp fun h => by simpa using h
theorem nodup_perm {l m : List Int} (h : l.Perm m) : nodupB l = nodupB m := by
  unfold nodupB; exact decide_eq_decide.2 h.nodup_iff
theorem dup_adj {ss : List Int} (j : Nat) (h0 : 0 < j) (h1 : j < ss.length) (he : ss.getD j 0 = ss.getD (j - 1) 0) : nodupB ss = false := by
  unfold nodupB
  rw [decide_eq_false_iff_not]
  intro hn
  have := List.pairwise_iff_getElem.1 hn (j - 1) j (by omega) h1 (by omega)
  rw [getD_get _ _ _ h1, getD_get _ _ _ (by omega)] at he
  exact this he.symm
theorem nodup_adj {ss : List Int} (hs : ss.Pairwise (fun x y => x ≤ y)) (h : ∀ j, 0 < j → j < ss.length → ss.getD j 0 ≠ ss.getD (j - 1) 0) : nodupB ss = true := by
  unfold nodupB
  rw [decide_eq_true_eq]
  refine List.pairwise_iff_getElem.2 fun i j hi hj hij => ?_
  have h1 := h j (by omega) hj
  rw [getD_get _ _ _ hj, getD_get _ _ _ (by omega)] at h1
  have h2 : ss[j - 1] ≤ ss[j] := List.pairwise_iff_getElem.1 hs (j - 1) j (by omega) hj (by omega)
  rcases Nat.lt_or_ge i (j - 1) with g | g
  · have h3 : ss[i] ≤ ss[j - 1] := List.pairwise_iff_getElem.1 hs i (j - 1) hi (by omega) g
    omega
  · have : i = j - 1 := by omega
    subst this
    omega
/-- The document's own way: each one against those ahead of it. -/
theorem dup_at {zs : List Int} (i k : Nat) (hk : k < i) (hi : i < zs.length) (he : zs.getD k 0 = zs.getD i 0) : nodupB zs = false := by
  unfold nodupB
  rw [decide_eq_false_iff_not]
  intro hn
  have := List.pairwise_iff_getElem.1 hn k i (by omega) hi hk
  rw [getD_get _ _ _ hi, getD_get _ _ _ (by omega)] at he
  exact this he
theorem nodup_at {zs : List Int} (h : ∀ i k, k < i → i < zs.length → zs.getD k 0 ≠ zs.getD i 0) : nodupB zs = true := by
  unfold nodupB
  rw [decide_eq_true_eq]
  refine List.pairwise_iff_getElem.2 fun i j hi hj hij => ?_
  have := h j i hij hj
  rwa [getD_get _ _ _ hi, getD_get _ _ _ hj] at this

/-! Who wants a name most. -/
attribute [local irreducible] scoreI
theorem more_iff (s a b : Int) : moreB s a b = true ↔ (scoreI b s < scoreI a s ∨ (scoreI a s = scoreI b s ∧ a < b)) := by unfold moreB; simp
theorem more_irrefl (s a : Int) : moreB s a a = false := by unfold moreB; simp
theorem more_trans {s a b c : Int} (h1 : moreB s a b = true) (h2 : moreB s b c = true) : moreB s a c = true := by
  rw [more_iff] at *; omega
theorem more_asymm {s a b : Int} (h : moreB s a b = true) : moreB s b a = false := by
  cases g : moreB s b a
  · rfl
  · have := more_trans h g; rw [more_irrefl] at this; cases this
theorem more_total {s a b : Int} (h : a ≠ b) (g : moreB s a b = false) : moreB s b a = true := by
  rw [more_iff]
  have : ¬ (moreB s a b = true) := by rw [g]; simp
  rw [more_iff] at this
  omega
theorem nt_arith (x y z a b c : Int) (h1 : ¬ (y < x ∨ (x = y ∧ a < b))) (h2 : ¬ (z < y ∨ (y = z ∧ b < c))) : ¬ (z < x ∨ (x = z ∧ a < c)) := by omega
theorem more_no (s a b : Int) : moreB s a b = false ↔ ¬ (scoreI b s < scoreI a s ∨ (scoreI a s = scoreI b s ∧ a < b)) := by
  rw [← more_iff, Bool.not_eq_true]
theorem more_ntrans {s a b c : Int} (h1 : moreB s a b = false) (h2 : moreB s b c = false) : moreB s a c = false :=
  (more_no s a c).2 (nt_arith _ _ _ _ _ _ ((more_no s a b).1 h1) ((more_no s b c).1 h2))
def better (s b z : Int) : Int := if moreB s z b then z else b
def bestOf (s : Int) : List Int → Int
  | [] => 0
  | z :: r => r.foldl (better s) z
theorem bestOf_cons (s z : Int) (r : List Int) : bestOf s (z :: r) = r.foldl (better s) z := rfl
def bestTo (s : Int) (zs : List Int) (k : Nat) : Int := bestOf s (zs.take k)
theorem better_yes {s b z : Int} (h : moreB s z b = true) : better s b z = z := by unfold better; rw [if_pos h]
theorem better_no {s b z : Int} (h : moreB s z b = false) : better s b z = b := by unfold better; rw [h]; simp
theorem bestOf_snoc (s : Int) (l : List Int) (z : Int) (h : l ≠ []) : bestOf s (l ++ [z]) = better s (bestOf s l) z := by
  cases l with
  | nil => exact absurd rfl h
  | cons y r => rw [List.cons_append, bestOf_cons, bestOf_cons, List.foldl_append, List.foldl_cons, List.foldl_nil]
theorem bestTo_one (s : Int) (zs : List Int) (h : 0 < zs.length) : bestTo s zs 1 = zs.getD 0 0 := by
  cases zs with
  | nil => simp at h
  | cons y r => unfold bestTo; rw [List.take_succ_cons, List.take_zero, bestOf_cons, List.foldl_nil]; rfl
theorem bestTo_succ (s : Int) (zs : List Int) (k : Nat) (h0 : 0 < k) (h : k < zs.length) : bestTo s zs (k + 1) = better s (bestTo s zs k) (zs.getD k 0) := by
  unfold bestTo
  rw [take_snocL zs k 0 h]
  exact bestOf_snoc s _ _ (by intro e; have := congrArg List.length e; rw [List.length_take] at this; simp only [List.length_nil] at this; omega)
theorem bestTo_all (s : Int) (zs : List Int) : bestTo s zs zs.length = bestOf s zs := by unfold bestTo; rw [List.take_length]
theorem bestOf_mem (s : Int) (l : List Int) (h : l ≠ []) : bestOf s l ∈ l := by
  cases l with
  | nil => exact absurd rfl h
  | cons y r =>
    have : ∀ (r : List Int) (b : Int), r.foldl (better s) b = b ∨ r.foldl (better s) b ∈ r := by
      intro r
      induction r with
      | nil => exact fun b => .inl rfl
      | cons z q ih =>
        intro b
        rw [List.foldl_cons]
        rcases ih (better s b z) with h | h
        · rw [h]; unfold better; split
          · exact .inr (by simp)
          · exact .inl rfl
        · exact .inr (List.mem_cons_of_mem _ h)
    rcases this r y with h | h
    · rw [bestOf_cons, h]; exact List.mem_cons_self
    · rw [bestOf_cons]; exact List.mem_cons_of_mem _ h
theorem bestTo_mem (s : Int) (zs : List Int) (k : Nat) (h0 : 0 < k) (h : k ≤ zs.length) : bestTo s zs k ∈ zs :=
  List.mem_of_mem_take (bestOf_mem s (zs.take k) (by intro e; have := congrArg List.length e; rw [List.length_take] at this; simp only [List.length_nil] at this; omega))
/-- No other one wants it more. -/
theorem bestOf_most (s : Int) (l : List Int) (z : Int) (hz : z ∈ l) : moreB s z (bestOf s l) = false := by
  cases l with
  | nil => cases hz
  | cons y r =>
    have : ∀ (r : List Int) (b : Int), (∀ z, z ∈ b :: r → moreB s z (r.foldl (better s) b) = false) := by
      intro r
      induction r with
      | nil => intro b z hz; simp at hz; subst hz; exact more_irrefl s z
      | cons x q ih =>
        intro b z hz
        rw [List.foldl_cons]
        have hb := ih (better s b x) (better s b x) (by simp)
        have hbb : moreB s b (better s b x) = false := by
          cases h : moreB s x b
          · rw [better_no h]; exact more_irrefl s b
          · rw [better_yes h]; exact more_asymm h
        have hxx : moreB s x (better s b x) = false := by
          cases h : moreB s x b
          · rw [better_no h]; exact h
          · rw [better_yes h]; exact more_irrefl s x
        simp only [List.mem_cons] at hz
        rcases hz with rfl | rfl | hz
        · exact more_ntrans hbb hb
        · exact more_ntrans hxx hb
        · exact ih (better s b x) z (by simp [hz])
    rw [bestOf_cons]
    exact this r y z hz
theorem bestOf_unique (s : Int) (l : List Int) (b : Int) (hb : b ∈ l) (h : ∀ z ∈ l, moreB s z b = false) : bestOf s l = b := by
  have hl : l ≠ [] := by intro e; rw [e] at hb; cases hb
  have h1 := bestOf_mem s l hl
  have h2 := bestOf_most s l b hb
  have h3 := h _ h1
  by_cases e : bestOf s l = b
  · exact e
  · have := more_total e h3; rw [h2] at this; cases this
theorem bestOf_append (s : Int) (l m : List Int) (hl : l ≠ []) : bestOf s (l ++ m) = bestOf s l ∨ bestOf s (l ++ m) ∈ m := by
  have h1 := bestOf_mem s (l ++ m) (by simp [hl])
  rcases List.mem_append.1 h1 with h | h
  · left
    exact (bestOf_unique s l _ h (fun z hz => bestOf_most s (l ++ m) z (by simp [hz]))).symm
  · exact .inr h

/-- Draw's error. -/
def drawE (l : List UInt8) (zs : List Int) : Int := if nameB l then (if listE zs = 0 then (if zs.length = 0 then 4 else 0) else listE zs) else 21
/-- Draw's answer. -/
def drawN (l : List UInt8) (zs : List Int) : Int := if drawE l zs = 0 then bestOf (sumI l) zs else 0
theorem drawE_name {l : List UInt8} {zs : List Int} (h : nameB l = false) : drawE l zs = 21 := by unfold drawE; rw [h]; rfl
theorem drawE_list {l : List UInt8} {zs : List Int} (h : nameB l = true) (g : listE zs ≠ 0) : drawE l zs = listE zs := by unfold drawE; rw [h, if_pos rfl, if_neg g]
theorem drawE_none {l : List UInt8} {zs : List Int} (h : nameB l = true) (g : listE zs = 0) (k : zs.length = 0) : drawE l zs = 4 := by unfold drawE; rw [h, if_pos rfl, if_pos g, if_pos k]
theorem drawE_ok {l : List UInt8} {zs : List Int} (h : nameB l = true) (g : listE zs = 0) (k : zs.length ≠ 0) : drawE l zs = 0 := by unfold drawE; rw [h, if_pos rfl, if_pos g, if_neg k]
theorem drawN_no {l : List UInt8} {zs : List Int} (h : drawE l zs ≠ 0) : drawN l zs = 0 := by unfold drawN; rw [if_neg h]
theorem drawN_ok {l : List UInt8} {zs : List Int} (h : drawE l zs = 0) : drawN l zs = bestOf (sumI l) zs := by unfold drawN; rw [if_pos h]
theorem drawE_zero {l : List UInt8} {zs : List Int} (h : drawE l zs = 0) : nameB l = true ∧ zs.all idB = true ∧ nodupB zs = true ∧ zs.length ≠ 0 := by
  unfold drawE at h
  split at h
  · rename_i hn
    split at h
    · rename_i hl
      split at h
      · omega
      · rename_i hk
        obtain ⟨a, b⟩ := listE_zero hl
        exact ⟨hn, a, b, hk⟩
    · rename_i hl; exact absurd h hl
  · omega

/-! In which order all want it. -/
def Wanted (s : Int) (zs l : List Int) : Prop := l.Perm zs ∧ l.Pairwise (fun a b => moreB s a b = true)
theorem wanted_unique {s : Int} {zs zs' l m : List Int} (h1 : Wanted s zs l) (h2 : Wanted s zs' m) (hp : zs.Perm zs') : l = m :=
  List.Perm.eq_of_pairwise (le := fun a b => moreB s a b = true) (fun a b _ _ h g => by have := more_asymm h; rw [g] at this; cases this) h1.2 h2.2 ((h1.1.trans hp).trans h2.1.symm)
theorem wanted_head {s : Int} {zs l : List Int} (h : Wanted s zs l) (i : Nat) (hi : i < l.length) : bestOf s (l.drop i) = l.getD i 0 := by
  have hp : (l.drop i).Pairwise (fun a b => moreB s a b = true) := h.2.sublist (List.drop_sublist _ _)
  rw [getD_get _ _ _ hi]
  rw [List.drop_eq_getElem_cons hi] at hp
  rw [List.drop_eq_getElem_cons hi]
  refine bestOf_unique s _ _ (List.mem_cons_self) fun z hz => ?_
  simp only [List.mem_cons] at hz
  rcases hz with rfl | hz
  · exact more_irrefl _ _
  · exact more_asymm (List.rel_of_pairwise_cons hp hz)
end Go.Iq
