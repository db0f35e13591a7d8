/- Caches, plainly: neighbours. -/
import Derived.Test.YtfnmfmelcghjbaaKqA
namespace Go.Kq
open Go.Mq Go.Fq
set_option linter.unusedVariables false
set_option linter.unusedSimpArgs false

structure Hd where
  id : Int
  wt : Nat
  ns : List Nw
def RiseH (M : List Hd) : Prop := M.Pairwise (fun a b => a.id < b.id)
/-- A list that may be kept. -/
structure OkN (l : List Nw) : Prop where
  rise : Rise l
  news : ∀ x ∈ l, newsB x = true
  fit : ∀ x ∈ l, x.Fit
  fin : ∀ x ∈ l, infP x.dist = false
/-- A cache that may be. -/
structure OkH (M : List Hd) : Prop where
  rise : RiseH M
  num : ∀ h ∈ M, numB h.id = true
  wt : ∀ h ∈ M, h.wt < 2 ^ 64
  ns : ∀ h ∈ M, OkN h.ns
  len : M.length ≤ 256
def addH (M : List Hd) (id : Int) (w : Nat) : List Hd := M.filter (fun h => decide (h.id < id)) ++ ⟨id, w, []⟩ :: M.filter (fun h => decide (id < h.id))
def rmH (M : List Hd) (id : Int) : List Hd := M.filter (fun h => h.id != id)
def updH (M : List Hd) (id : Int) (h' : Hd) : List Hd := M.map (fun h => if h.id = id then h' else h)
theorem okN_nil : OkN [] := ⟨List.Pairwise.nil, by simp, by simp, by simp⟩
theorem okN_mrg {l ns : List Nw} (h : OkN l) (ho : orderB ns = true) (hf : ∀ x ∈ ns, x.Fit) : OkN (mrg l ns) := by
  obtain ⟨h1, h2⟩ := order_rise ho
  refine ⟨rise_mrg ns l h1 h.rise, fun x hx => ?_, fun x hx => ?_, fun x hx => ?_⟩
  all_goals
    rcases (mem_mrg ns l h1 x).1 hx with ⟨a, b⟩ | ⟨a, b⟩
  · exact h2 x a
  · exact h.news x a
  · exact hf x a
  · exact h.fit x a
  · exact b
  · exact h.fin x a
theorem riseH_add {M : List Hd} (h : RiseH M) (id : Int) (w : Nat) : RiseH (addH M id w) := by
  refine List.pairwise_append.2 ⟨List.Pairwise.filter _ h, List.pairwise_cons.2 ⟨fun a ha => ?_, List.Pairwise.filter _ h⟩, fun a ha b hb => ?_⟩
  · have := (List.mem_filter.1 ha).2; simpa using this
  · have h1 : a.id < id := by have := (List.mem_filter.1 ha).2; simpa using this
    rcases List.mem_cons.1 hb with rfl | hb
    · exact h1
    · have h2 : id < b.id := by have := (List.mem_filter.1 hb).2; simpa using this
      omega
theorem mem_addH {M : List Hd} {id : Int} {w : Nat} {x : Hd} (h : x ∈ addH M id w) : x ∈ M ∨ x = ⟨id, w, []⟩ := by
  unfold addH at h
  rcases List.mem_append.1 h with h | h
  · exact Or.inl (List.mem_filter.1 h).1
  · rcases List.mem_cons.1 h with h | h
    · exact Or.inr h
    · exact Or.inl (List.mem_filter.1 h).1
theorem part_len {α : Type} (f : α → Int) (k : Int) : ∀ (M : List α), (∀ x ∈ M, f x ≠ k) → (M.filter (fun h => decide (f h < k))).length + (M.filter (fun h => decide (k < f h))).length = M.length
  | [], _ => rfl
  | x :: M, h => by
    have ih := part_len f k M (fun y hy => h y (List.mem_cons_of_mem _ hy))
    have hx := h x (List.mem_cons_self ..)
    by_cases c : f x < k
    · rw [List.filter_cons, if_pos (by simpa using c), List.filter_cons, if_neg (by simp; omega)]; simp; omega
    · rw [List.filter_cons, if_neg (by simpa using c), List.filter_cons, if_pos (by simp; omega)]; simp; omega
theorem len_addH {M : List Hd} {id : Int} {w : Nat} (h : ∀ x ∈ M, x.id ≠ id) : (addH M id w).length = M.length + 1 := by
  have := part_len (fun x : Hd => x.id) id M h
  unfold addH; simp; omega
theorem ok_add {M : List Hd} (h : OkH M) {id : Int} {w : Nat} (hid : numB id = true) (hw : w < 2 ^ 64) (hn : ∀ x ∈ M, x.id ≠ id) (hl : M.length < 256) : OkH (addH M id w) := by
  refine ⟨riseH_add h.rise id w, fun x hx => ?_, fun x hx => ?_, fun x hx => ?_, by rw [len_addH hn]; omega⟩
  all_goals rcases mem_addH hx with hx | rfl
  · exact h.num x hx
  · exact hid
  · exact h.wt x hx
  · exact hw
  · exact h.ns x hx
  · exact okN_nil
theorem ok_rm {M : List Hd} (h : OkH M) (id : Int) : OkH (rmH M id) :=
  ⟨List.Pairwise.filter _ h.rise, fun x hx => h.num x (List.mem_filter.1 hx).1, fun x hx => h.wt x (List.mem_filter.1 hx).1, fun x hx => h.ns x (List.mem_filter.1 hx).1, Nat.le_trans (List.length_filter_le _ _) h.len⟩
theorem ok_upd {M : List Hd} (h : OkH M) {id : Int} {h' : Hd} (he : h'.id = id) (hm : ∃ x ∈ M, x.id = id) (hw : h'.wt < 2 ^ 64) (hn : OkN h'.ns) : OkH (updH M id h') := by
  obtain ⟨x0, hx0, e0⟩ := hm
  have key : ∀ x : Hd, (if x.id = id then h' else x).id = x.id := by
    intro x
    by_cases c : x.id = id
    · rw [if_pos c, he, c]
    · rw [if_neg c]
  refine ⟨?_, fun x hx => ?_, fun x hx => ?_, fun x hx => ?_, by unfold updH; rw [List.length_map]; exact h.len⟩
  · unfold RiseH updH
    rw [List.pairwise_map]
    exact List.Pairwise.imp (fun {a b} hab => by rw [key, key]; exact hab) h.rise
  all_goals
    obtain ⟨y, hy, rfl⟩ := List.mem_map.1 hx
  · rw [key]; exact h.num y hy
  · split
    · exact hw
    · exact h.wt y hy
  · split
    · exact hn
    · exact h.ns y hy
theorem riseH_inj {M : List Hd} (h : RiseH M) {i j : Nat} (hi : i < M.length) (hj : j < M.length) (e : M[i].id = M[j].id) : i = j := by
  have hp := List.pairwise_iff_getElem.1 h
  rcases Nat.lt_trichotomy i j with c | c | c
  · have := hp i j hi hj c; omega
  · exact c
  · have := hp j i hj hi c; omega
theorem riseH_mem {M : List Hd} (h : RiseH M) {x y : Hd} (hx : x ∈ M) (hy : y ∈ M) (e : x.id = y.id) : x = y := by
  obtain ⟨i, hi, rfl⟩ := List.getElem_of_mem hx
  obtain ⟨j, hj, rfl⟩ := List.getElem_of_mem hy
  have := riseH_inj h hi hj e
  subst this; rfl
theorem set_upd {M : List Hd} (h : RiseH M) {i : Nat} (hi : i < M.length) (h' : Hd) : M.set i h' = updH M M[i].id h' := by
  unfold updH
  apply List.ext_getElem
  · simp
  · intro j h1 h2
    rw [List.length_set] at h1
    rw [List.getElem_set, List.getElem_map]
    by_cases c : i = j
    · subst c; rw [if_pos rfl, if_pos rfl]
    · rw [if_neg c, if_neg (fun e => c (riseH_inj h hi h1 e.symm))]
end Go.Kq
namespace Go.Kq
open Go.Mq Go.Fq
def fnd (M : List Hd) (id : Int) : Option Hd := M.find? (fun h => h.id == id)
theorem fnd_none {M : List Hd} {id : Int} (h : ∀ x ∈ M, x.id ≠ id) : fnd M id = none := by
  unfold fnd; rw [List.find?_eq_none]; intro x hx; simpa using h x hx
theorem fnd_some {M : List Hd} (hr : RiseH M) {x : Hd} (hx : x ∈ M) : fnd M x.id = some x := by
  unfold fnd
  cases h : M.find? (fun h => h.id == x.id) with
  | none => rw [List.find?_eq_none] at h; exact absurd (h x hx) (by simp)
  | some y =>
    have h1 := List.mem_of_find?_eq_some h
    have h2 := List.find?_some h
    rw [riseH_mem hr h1 hx (by simpa using h2)]
theorem fnd_cases {M : List Hd} (hr : RiseH M) (id : Int) : (fnd M id = none ∧ ∀ x ∈ M, x.id ≠ id) ∨ ∃ x ∈ M, x.id = id ∧ fnd M id = some x := by
  by_cases h : ∃ x ∈ M, x.id = id
  · obtain ⟨x, hx, rfl⟩ := h
    exact Or.inr ⟨x, hx, rfl, fnd_some hr hx⟩
  · have hn : ∀ x ∈ M, x.id ≠ id := fun x hx e => h ⟨x, hx, e⟩
    exact Or.inl ⟨fnd_none hn, hn⟩
/-- What the calls tell, and what they leave. -/
def addR (M : List Hd) (id : Int) (f : Nat) : Int × List Hd := if numB id = false then (20, M) else if weightF f ≠ 0 then (weightF f, M) else match fnd M id with
  | some _ => (72, M)
  | none => if M.length = 256 then (2, M) else (0, addH M id f)
def weighR (M : List Hd) (id : Int) (f : Nat) : Int × List Hd := if weightF f ≠ 0 then (weightF f, M) else match fnd M id with
  | none => (4, M)
  | some h => (0, updH M id ⟨h.id, f, h.ns⟩)
def rmR (M : List Hd) (id : Int) : Int × List Hd := match fnd M id with
  | none => (4, M)
  | some _ => (0, rmH M id)
def learnR (M : List Hd) (id : Int) (news : List Nw) : Int × Nat × List Hd := match fnd M id with
  | none => (4, 0, M)
  | some h => if orderB news then (0, chg h.ns news, updH M id ⟨h.id, h.wt, mrg h.ns news⟩) else (1, 0, M)
def forgetR (M : List Hd) (id : Int) : Int × Nat × List Hd := match fnd M id with
  | none => (4, 0, M)
  | some h => (0, h.ns.length, updH M id ⟨h.id, h.wt, []⟩)
def listR (M : List Hd) (id : Int) : Int × List Nw := match fnd M id with
  | none => (4, [])
  | some h => (0, h.ns)
end Go.Kq
