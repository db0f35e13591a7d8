/- Caches, plainly: what is learnt again, and anew. -/
import Derived.Test.YtfnmfmelcghjbaaKqB
open Go
namespace Go.Kq
open Go.Mq
theorem mrg_again {l ns : List Nw} (h : OkN l) (ho : orderB ns = true) (hf : ∀ x ∈ ns, x.Fit) : mrg (mrg l ns) ns = mrg l ns := by
  obtain ⟨h1, h2⟩ := order_rise ho
  have hm := okN_mrg h ho hf
  refine rise_ext _ _ (rise_mrg ns _ h1 hm.rise) hm.rise (fun y => ?_)
  rw [mem_mrg ns (mrg l ns) h1 y]
  constructor
  · rintro (e | e)
    · exact (mem_mrg ns l h1 y).2 (Or.inl e)
    · exact e.1
  · intro e
    rcases (mem_mrg ns l h1 y).1 e with e2 | e2
    · exact Or.inl e2
    · exact Or.inr ⟨e, e2.2⟩
theorem chg_again {l ns : List Nw} (h : OkN l) (ho : orderB ns = true) (hf : ∀ x ∈ ns, x.Fit) : chg (mrg l ns) ns = 0 := by
  obtain ⟨h1, h2⟩ := order_rise ho
  have hm := okN_mrg h ho hf
  rw [chg_eq ns _ h1 hm.rise, mrg_again h ho hf, countP_zero (fun x hx => by rw [hasE_mem.2 hx]; rfl), countP_zero (fun x hx => by rw [hasK_mem.2 ⟨x, hx, rfl⟩]; rfl)]
theorem fnd_cons (x : Hd) (M : List Hd) (id : Int) : fnd (x :: M) id = if x.id = id then some x else fnd M id := by
  unfold fnd
  rw [List.find?_cons]
  by_cases e : x.id = id
  · simp [e]
  · rw [if_neg e, show (x.id == id) = false by simp [e]]
theorem fnd_upd_same {id : Int} {h' : Hd} (he : h'.id = id) : ∀ {M : List Hd} {x : Hd}, fnd M id = some x → fnd (updH M id h') id = some h'
  | [], _, h => by simp [fnd] at h
  | y :: M, x, h => by
    unfold updH
    rw [List.map_cons, fnd_cons]
    rw [fnd_cons] at h
    by_cases e : y.id = id
    · rw [if_pos e, if_pos he]
    · rw [if_neg e] at h
      rw [if_neg e, if_neg e]
      exact fnd_upd_same he h
theorem fnd_upd_other {id k : Int} {h' : Hd} (he : h'.id = id) (hk : k ≠ id) : ∀ {M : List Hd}, fnd (updH M id h') k = fnd M k
  | [] => rfl
  | y :: M => by
    unfold updH
    rw [List.map_cons, fnd_cons, fnd_cons]
    by_cases e : y.id = id
    · rw [if_pos e, if_neg (by omega), if_neg (by omega)]
      exact fnd_upd_other he hk
    · rw [if_neg e]
      by_cases e2 : y.id = k
      · rw [if_pos e2, if_pos e2]
      · rw [if_neg e2, if_neg e2]
        exact fnd_upd_other he hk
theorem fnd_mem {M : List Hd} {id : Int} {x : Hd} (h : fnd M id = some x) : x ∈ M ∧ x.id = id := by
  unfold fnd at h
  exact ⟨List.mem_of_find?_eq_some h, by have := List.find?_some h; simpa using this⟩
/-- What was learnt: from whom, and that it may be told. -/
theorem learn_ok {M : List Hd} {id : Int} {news : List Nw} (h : (learnR M id news).1 = 0) : ∃ x, fnd M id = some x ∧ orderB news = true ∧ learnR M id news = (0, chg x.ns news, updH M id ⟨x.id, x.wt, mrg x.ns news⟩) := by
  unfold learnR at h ⊢
  cases hf : fnd M id with
  | none => rw [hf] at h; simp at h
  | some x =>
    rw [hf] at h
    cases ho : orderB news with
    | false => rw [ho] at h; simp at h
    | true => exact ⟨x, rfl, rfl, rfl⟩
/-- Learnt again it changes nothing. -/
theorem learn_again {M : List Hd} {id : Int} {news : List Nw} (ok : OkH M) (hfit : ∀ x ∈ news, x.Fit) (h : (learnR M id news).1 = 0) :
    (learnR (learnR M id news).2.2 id news).1 = 0 ∧ (learnR (learnR M id news).2.2 id news).2.1 = 0 := by
  obtain ⟨x, hf, ho, e⟩ := learn_ok h
  obtain ⟨hx, hid⟩ := fnd_mem hf
  rw [e]
  unfold learnR
  rw [fnd_upd_same (by exact hid) hf]
  simp only [ho, if_true]
  exact ⟨trivial, chg_again (ok.ns x hx) ho hfit⟩
/-- It changes no other one's list. -/
theorem learn_other {M : List Hd} {id k : Int} {news : List Nw} (h : (learnR M id news).1 = 0) (hk : k ≠ id) : listR (learnR M id news).2.2 k = listR M k := by
  obtain ⟨x, hf, ho, e⟩ := learn_ok h
  obtain ⟨hx, hid⟩ := fnd_mem hf
  rw [e]
  unfold listR
  rw [fnd_upd_other (by exact hid) hk]
theorem learn_self {M : List Hd} {id : Int} {news : List Nw} (h : (learnR M id news).1 = 0) : ∃ x, fnd M id = some x ∧ listR (learnR M id news).2.2 id = (0, mrg x.ns news) := by
  obtain ⟨x, hf, ho, e⟩ := learn_ok h
  obtain ⟨hx, hid⟩ := fnd_mem hf
  refine ⟨x, hf, ?_⟩
  rw [e]
  unfold listR
  rw [fnd_upd_same (by exact hid) hf]
/-- What was forgotten is learnt anew. -/
theorem learn_anew {M : List Hd} {id : Int} {news : List Nw} {x : Hd} (hf : fnd M id = some x) (ho : orderB news = true) :
    (learnR (forgetR M id).2.2 id news).1 = 0 ∧ listR (learnR (forgetR M id).2.2 id news).2.2 id = (0, mrg [] news) := by
  obtain ⟨hx, hid⟩ := fnd_mem hf
  have e1 : (forgetR M id).2.2 = updH M id ⟨x.id, x.wt, []⟩ := by unfold forgetR; rw [hf]
  have h2 : fnd (updH M id ⟨x.id, x.wt, []⟩) id = some ⟨x.id, x.wt, []⟩ := fnd_upd_same (by exact hid) hf
  rw [e1]
  have h3 : learnR (updH M id ⟨x.id, x.wt, []⟩) id news = (0, chg [] news, updH (updH M id ⟨x.id, x.wt, []⟩) id ⟨x.id, x.wt, mrg [] news⟩) := by
    unfold learnR
    rw [h2]
    simp only [ho, if_true]
  rw [h3]
  refine ⟨rfl, ?_⟩
  unfold listR
  rw [fnd_upd_same (by exact hid) h2]
/-- And so it is of one who is there alone. -/
theorem learn_alone {id : Int} {wt : Nat} {news : List Nw} (ho : orderB news = true) : learnR [⟨id, wt, []⟩] id news = (0, chg [] news, [⟨id, wt, mrg [] news⟩]) := by
  unfold learnR
  rw [fnd_cons, if_pos rfl]
  simp only [ho, if_true]
  simp [updH]
end Go.Kq
