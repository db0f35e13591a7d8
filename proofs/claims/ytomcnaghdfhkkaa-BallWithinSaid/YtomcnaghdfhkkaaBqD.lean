/- Balls: who knows whom, by homes and distances. -/
import Derived.Test.YtomcnaghdfhkkaaBqA
namespace Go.Bq
open Go.Fq Go.Nq Go.Iq Go.Pq

theorem way_zero {g : Gr} (hz : checkG g = 0) (hw : Wts g) {s v : Nat} (h : Pq.Way (Pq.Road g) s v 0) : v = s := by
  generalize hn : 0 = n at h
  cases h with
  | nil => rfl
  | cons h1 hr => have := road_bd hz hw hr; omega
theorem dI_self {g : Gr} (hz : checkG g = 0) (hw : Wts g) {lim : Nat} (hl : 0 < lim) {x : Int} (hx : upB g.nodes x = true) : dI g lim x x = some 0 := by
  obtain ⟨a, a1, a2, a3, a4⟩ := up_id hz hx
  obtain ⟨-, p⟩ := dst_p hz hw lim a
  rw [if_pos a4] at p
  unfold dI; rw [a2]
  cases e : g_ (dst g lim a) a with
  | none => have := (p a).2 e 0 .nil; omega
  | some n => have := ((p a).1 n e).2.2 0 .nil; congr 1; omega
theorem dI_zero {g : Gr} (hz : checkG g = 0) (hw : Wts g) {lim : Nat} {x y : Int} (hx : upB g.nodes x = true) (hy : upB g.nodes y = true) (h : dI g lim x y = some 0) : x = y := by
  obtain ⟨a, a1, a2, a3, a4⟩ := up_id hz hx
  obtain ⟨b, b1, b2, b3, b4⟩ := up_id hz hy
  obtain ⟨-, p⟩ := dst_p hz hw lim b
  rw [if_pos b4] at p
  unfold dI at h; rw [a2, b2] at h
  have e := way_zero hz hw ((p a).1 0 h).1
  rw [← a3, ← b3, e]
theorem ltO_irr (a : Option Nat) : ltO a a = false := by cases a <;> simp [ltO]
theorem ltO_tr {a b r : Option Nat} (h1 : ltO a r = false) (h2 : ltO b r = true) : ltO a b = false := by
  cases a <;> cases b <;> cases r <;> simp [ltO] at * <;> omega
theorem ltO_some {a b : Option Nat} (h : ltO a b = true) : a.isSome = true := by
  cases a with
  | none => simp [ltO] at h
  | some n => rfl
theorem home_least {g : Gr} (lim : Nat) (x : Int) : ∀ k, k ≤ g.nodes.length → ∀ i, i < k → ∀ hg : i < g.nodes.length, g.nodes[i].up = true → g.nodes[i].mark = true → ltO (dI g lim g.nodes[i].id x) (homeK g lim x k).2 = false := by
  intro k
  induction k with
  | zero => intro _ i hi; omega
  | succ k ih =>
    intro hk i hi hg hu hm
    rw [homeK_go g lim x (by omega)]
    unfold homeS
    split
    · rename_i h
      by_cases e : i = k
      · subst e; exact ltO_irr _
      · exact ltO_tr (ih (by omega) i (by omega) hg hu hm) h.2.2
    · rename_i h
      by_cases e : i = k
      · subst e
        cases hb : ltO (dI g lim g.nodes[i].id x) (homeK g lim x i).2 with
        | false => rfl
        | true => exact absurd ⟨hu, hm, hb⟩ h
      · exact ih (by omega) i (by omega) hg hu hm
theorem home_mark {g : Gr} (hz : checkG g = 0) (hw : Wts g) {lim : Nat} (hl : 0 < lim) {m : Nd} (hm : m ∈ g.nodes) (hu : m.up = true) (hk : m.mark = true) : homeI g lim m.id = (m.id, some 0) := by
  have hx := mem_up hm hu
  obtain ⟨i, hi, rfl⟩ := List.getElem_of_mem hm
  have h := home_least (g := g) lim g.nodes[i].id g.nodes.length (Nat.le_refl _) i hi hi hu hk
  rw [homeK_all g lim _ (Nat.le_refl _), dI_self hz hw hl hx] at h
  rcases home_is (g := g) lim g.nodes[i].id with ⟨-, e⟩ | ⟨n, n1, n2, n3, n4, n5, n6⟩
  · rw [e] at h; simp [ltO] at h
  · cases e : (homeI g lim g.nodes[i].id).2 with
    | none => rw [e] at h; simp [ltO] at h
    | some r =>
      rw [e] at h
      have hr : r = 0 := by simp [ltO] at h; omega
      subst hr
      have := dI_zero hz hw (mem_up n1 n2) hx (n5.symm.trans e)
      refine Prod.ext ?_ e
      show (homeI g lim g.nodes[i].id).1 = g.nodes[i].id
      rw [n4, this]
/-- Does u know a router? -/
noncomputable def knI (g : Gr) (lim : Nat) (u : Int) (m : Nd) : Bool := decide (u = m.id) || (kindI g lim u m != 0 && (dI g lim u m.id).isSome)
theorem kn_live {g : Gr} (hz : checkG g = 0) (hw : Wts g) (lim : Nat) {u : Int} (hu : upB g.nodes u = true) {m : Nd} (hm : m ∈ g.nodes) (hup : m.up = true) : knI g lim u m = knI (liveG g) lim u m := by
  unfold knI
  rw [kind_live hz hw lim hu hm hup, dI_live hz hw lim hu (mem_up hm hup)]
theorem kn_want {g : Gr} (hz : checkG g = 0) (hw : Wts g) {lim : Nat} (hl : 0 < lim) {u : Int} {m : Nd} (hm : m ∈ g.nodes) (hup : m.up = true) (hne : u ≠ m.id) :
    knI g lim u m = (ltO (dI g lim u m.id) (homeI g lim m.id).2 || ((dI g lim u m.id).isSome && (u == (homeI g lim m.id).1 || (homeI g lim m.id).1 == m.id))) := by
  have n3 := (check_zero.1 hz).2.2.1
  unfold knI
  have e0 : decide (u = m.id) = false := by simpa using hne
  rw [e0, Bool.false_or]
  unfold kindI
  cases hk : m.mark with
  | true =>
    rw [home_mark hz hw hl hm hup hk, if_pos rfl]
    cases e : dI g lim u m.id with
    | none => simp [ltO]
    | some n => simp [ltO]
  | false =>
    rw [if_neg (by decide)]
    have hn : ((homeI g lim m.id).1 == m.id) = false := by
      rw [beq_eq_false_iff_ne]
      intro e
      obtain ⟨i, hi, rfl⟩ := List.getElem_of_mem hm
      have f1 := idf_is n3 hi
      rcases home_is (g := g) lim g.nodes[i].id with ⟨h1, -⟩ | ⟨n, n1, n2, n3', n4, -⟩
      · omega
      · obtain ⟨j, hj, rfl⟩ := List.getElem_of_mem n1
        have f2 := idf_is n3 hj
        have := idf_inj hz hi hj (by omega)
        subst this
        rw [hk] at n3'; cases n3'
    rw [hn, Bool.or_false]
    cases hb : ltO (dI g lim u m.id) (homeI g lim m.id).2 with
    | true => simp [ltO_some hb]
    | false =>
      by_cases e : u = (homeI g lim m.id).1
      · have e1 : (u == (homeI g lim m.id).1) = true := by simpa using e
        rw [e1, if_neg (by decide), if_pos e]; simp
      · have e1 : (u == (homeI g lim m.id).1) = false := by simpa using e
        rw [e1, if_neg (by decide), if_neg e]; simp
end Go.Bq
