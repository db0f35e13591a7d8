/- Deltas, plainly: lists that may be, what is told to one neighbour, and what follows. -/
import Derived.Test.YtfnmfmelcghjbaaDqA
import Derived.Test.YtfnmfmelcghjbaaKqC
namespace Go.Dq
open Go.Mq Go.Fq Go.Kq
set_option linter.unusedVariables false
set_option linter.unusedSimpArgs false

theorem rise_inj : ∀ {l : List Nw}, Rise l → ∀ {u v : Nw}, u ∈ l → v ∈ l → ky u = ky v → u = v
  | [], _, u, v, hu, _, _ => by simp at hu
  | t :: l, hr, u, v, hu, hv, hk => by
    obtain ⟨r1, r2⟩ := rise_cons hr
    rcases List.mem_cons.1 hu with rfl | hu2
    · rcases List.mem_cons.1 hv with rfl | hv2
      · rfl
      · have := r1 v hv2; omega
    · rcases List.mem_cons.1 hv with rfl | hv2
      · have := r1 u hu2; omega
      · exact rise_inj r2 hu2 hv2 hk
/-- None is gone. -/
def allF (l : List Nw) : Bool := l.all finB
def listB (l : List Nw) : Bool := orderB l && allF l
theorem order_of : ∀ {l : List Nw}, Rise l → (∀ n ∈ l, newsB n = true) → orderB l = true := by
  intro l h hn
  rw [order_iff]
  intro k hk
  refine ⟨hn _ (List.getElem_mem _), fun hk0 => ?_⟩
  rw [ahead_ky (hn _ (List.getElem_mem _)) (hn _ (List.getElem_mem _))]
  exact decide_eq_true (List.pairwise_iff_getElem.1 h (k - 1) k (by omega) hk (by omega))
theorem list_ok {l : List Nw} (h : listB l = true) (hf : ∀ x ∈ l, x.Fit) : OkN l := by
  unfold listB at h
  rw [Bool.and_eq_true] at h
  obtain ⟨h1, h2⟩ := order_rise h.1
  refine ⟨h1, h2, hf, fun x hx => ?_⟩
  have := List.all_eq_true.1 h.2 x hx
  unfold finB at this
  simpa using this
theorem ok_list {l : List Nw} (h : OkN l) : listB l = true := by
  unfold listB
  rw [Bool.and_eq_true]
  refine ⟨order_of h.rise h.news, List.all_eq_true.2 fun x hx => ?_⟩
  unfold finB; rw [h.fin x hx]; rfl
theorem ok_ls {l : List Nw} (h : OkN l) : Ls l := ⟨h.rise, fun x hx => by have := (news_bd (h.news x hx)).1; omega⟩
theorem order_ls {l : List Nw} (h : orderB l = true) : Ls l := by
  obtain ⟨h1, h2⟩ := order_rise h
  exact ⟨h1, fun x hx => by have := (news_bd (h2 x hx)).1; omega⟩
theorem far_topN : farB topN = true := by decide +kernel
theorem inf_topN : infP topN = true := by decide +kernel
theorem news_gone {n : Nw} (h : newsB n = true) : newsB (goneN n) = true := by
  have hk := (news_bd h).2.1
  unfold newsB at h ⊢
  rw [Bool.and_eq_true, Bool.and_eq_true] at h
  have h1 : numB (goneN n).dest = true := h.1.1
  have h2 : farB (goneN n).dist = true := far_topN
  have h3 : infP (goneN n).dist = true := inf_topN
  have h4 : noHome (goneN n) = true := rfl
  rw [h1, h2, h3, h4]
  rcases hk with e | e
  · rw [show (goneN n).kind = 1 from e]; rfl
  · rw [show (goneN n).kind = 2 from e]; rfl
theorem fit_gone {n : Nw} (h : n.Fit) : (goneN n).Fit := ⟨h.d, h.k, (by show (-9223372036854775808 : Int) ≤ 0 ∧ (0 : Int) < 9223372036854775808; omega), by show topN < 2 ^ 64; decide, by show (0 : Nat) < 2 ^ 64; decide⟩
theorem diff_news {a b : List Nw} (ha : OkN a) (hb : OkN b) : ∀ x ∈ diffL a b, newsB x = true ∧ x.Fit := by
  intro x hx
  rcases (mem_diff (ok_ls ha) (ok_ls hb) x).1 hx with ⟨h1, _⟩ | ⟨z, hz, _, rfl⟩
  · exact ⟨hb.news x h1, hb.fit x h1⟩
  · exact ⟨news_gone (ha.news z hz), fit_gone (ha.fit z hz)⟩
theorem diff_rise {a b : List Nw} (ha : OkN a) (hb : OkN b) : Rise (diffL a b) := rise_diff (ok_ls ha) (ok_ls hb)
theorem diff_order {a b : List Nw} (ha : OkN a) (hb : OkN b) : orderB (diffL a b) = true := order_of (diff_rise ha hb) (fun x hx => (diff_news ha hb x hx).1)
theorem diff_take {a b : List Nw} (ha : OkN a) (hb : OkN b) (k : Nat) : orderB ((diffL a b).take k) = true :=
  order_of ((diff_rise ha hb).sublist (List.take_sublist _ _)) (fun x hx => (diff_news ha hb x (List.mem_of_mem_take hx)).1)
/-- A list, and a part of what makes another one of it: what is still to be told is the rest. -/
theorem diff_step {a b : List Nw} (ha : OkN a) (hb : OkN b) (k : Nat) : OkN (mrg a ((diffL a b).take k)) ∧ diffL (mrg a ((diffL a b).take k)) b = (diffL a b).drop k := by
  have hk := diff_take ha hb k
  have hm : OkN (mrg a ((diffL a b).take k)) := okN_mrg ha hk (fun x hx => (diff_news ha hb x (List.mem_of_mem_take hx)).2)
  refine ⟨hm, rise_ext _ _ (diff_rise hm hb) ((diff_rise ha hb).sublist (List.drop_sublist _ _)) (fun y => ?_)⟩
  have hR := diff_rise ha hb
  have hsplit : ∀ z, z ∈ diffL a b ↔ z ∈ (diffL a b).take k ∨ z ∈ (diffL a b).drop k := fun z => by
    rw [← List.mem_append, List.take_append_drop]
  have hdis : ∀ u ∈ (diffL a b).take k, ∀ v ∈ (diffL a b).drop k, ky u < ky v := by
    have := hR
    rw [← List.take_append_drop k (diffL a b)] at this
    exact (List.pairwise_append.1 this).2.2
  have hkr := (order_rise hk).1
  have hM := mem_mrg ((diffL a b).take k) a hkr
  rw [mem_diff (ok_ls hm) (ok_ls hb)]
  constructor
  · rintro (⟨h1, h2⟩ | ⟨x, hx, h1, rfl⟩)
    · have hya : y ∉ a := fun hya => h2 ((hM y).2 (Or.inr ⟨hya, fun n hn e => by
        rcases (mem_diff (ok_ls ha) (ok_ls hb) n).1 (List.mem_of_mem_take hn) with ⟨g1, g2⟩ | ⟨x, hx, g, rfl⟩
        · exact g2 (by rw [rise_inj hb.rise g1 h1 e]; exact hya)
        · exact g y h1 e.symm⟩))
      rcases (hsplit y).1 ((mem_diff (ok_ls ha) (ok_ls hb) y).2 (Or.inl ⟨h1, hya⟩)) with e | e
      · exact absurd ((hM y).2 (Or.inl ⟨e, hb.fin y h1⟩)) h2
      · exact e
    · rcases (hM x).1 hx with ⟨g1, g2⟩ | ⟨g1, g2⟩
      · rcases (mem_diff (ok_ls ha) (ok_ls hb) x).1 (List.mem_of_mem_take g1) with ⟨e1, _⟩ | ⟨z, _, _, e⟩
        · exact absurd rfl (h1 x e1)
        · rw [e, inf_gone] at g2; cases g2
      · rcases (hsplit (goneN x)).1 ((mem_diff (ok_ls ha) (ok_ls hb) (goneN x)).2 (Or.inr ⟨x, g1, h1, rfl⟩)) with e | e
        · exact absurd (ky_gone x) (g2 _ e)
        · exact e
  · intro hy
    have hyd := (hsplit y).2 (Or.inr hy)
    rcases (mem_diff (ok_ls ha) (ok_ls hb) y).1 hyd with ⟨h1, h2⟩ | ⟨x, hx, h1, rfl⟩
    · refine Or.inl ⟨h1, fun hm2 => ?_⟩
      rcases (hM y).1 hm2 with ⟨g1, _⟩ | ⟨g1, _⟩
      · have := hdis y g1 y hy; omega
      · exact h2 g1
    · refine Or.inr ⟨x, (hM x).2 (Or.inr ⟨hx, fun n hn e => ?_⟩), h1, rfl⟩
      have := hdis n hn _ hy
      rw [ky_gone] at this
      omega
theorem diff_nil {a b : List Nw} (ha : OkN a) (hb : OkN b) : diffL a b = [] ↔ a = b := by
  constructor
  · intro h
    refine rise_ext _ _ ha.rise hb.rise (fun y => ⟨fun hy => ?_, fun hy => ?_⟩)
    · rcases Classical.em (∃ z ∈ b, ky z = ky y) with ⟨z, hz, e⟩ | hn
      · rcases Classical.em (z ∈ a) with hza | hza
        · rw [← rise_inj ha.rise hza hy e]; exact hz
        · have := (mem_diff (ok_ls ha) (ok_ls hb) z).2 (Or.inl ⟨hz, hza⟩)
          rw [h] at this; simp at this
      · have := (mem_diff (ok_ls ha) (ok_ls hb) (goneN y)).2 (Or.inr ⟨y, hy, fun z hz e => hn ⟨z, hz, e⟩, rfl⟩)
        rw [h] at this; simp at this
    · rcases Classical.em (y ∈ a) with hya | hya
      · exact hya
      · have := (mem_diff (ok_ls ha) (ok_ls hb) y).2 (Or.inl ⟨hy, hya⟩)
        rw [h] at this; simp at this
  · rintro rfl
    rw [List.eq_nil_iff_forall_not_mem]
    intro y hy
    rcases (mem_diff (ok_ls ha) (ok_ls ha) y).1 hy with ⟨h1, h2⟩ | ⟨x, hx, h1, _⟩
    · exact h2 h1
    · exact h1 x hx rfl
theorem diff_back {a b : List Nw} (ha : OkN a) (hb : OkN b) : mrg a (diffL a b) = b := by
  obtain ⟨h1, h2⟩ := diff_step ha hb (diffL a b).length
  rw [List.take_length] at h1 h2
  rw [List.drop_length] at h2
  exact (diff_nil h1 hb).1 h2
theorem mrg_twice {l ns : List Nw} (h : OkN l) (ho : orderB ns = true) (hf : ∀ x ∈ ns, x.Fit) : mrg (mrg l ns) ns = mrg l ns := mrg_again h ho hf
theorem mrg_nil {l : List Nw} : mrg l [] = l := rfl
/-- What is told to one neighbour. -/
instance nwDec : DecidableEq Nw := fun a b => decidable_of_iff (nwE a b = true) nwE_iff
structure Ou where
  seq : Nat
  acked : List Nw
  sent : List Nw
  flying : Bool
  age : Int
structure Ou.Fit (o : Ou) : Prop where
  seq : o.seq < 2 ^ 64
  acked : ∀ x ∈ o.acked, x.Fit
  sent : ∀ x ∈ o.sent, x.Fit
  age : -9223372036854775808 ≤ o.age ∧ o.age < 9223372036854775808
def flyB (o : Ou) : Bool := decide (1 ≤ o.seq) && (decide (0 ≤ o.age) && (decide (1 ≤ o.sent.length) && (decide (o.sent.length ≤ 512) && orderB o.sent)))
def restB (o : Ou) : Bool := decide (o.sent.length = 0) && decide (o.age = 0)
def mayO (o : Ou) : Bool := listB o.acked && (if o.flying then flyB o else restB o)
def checkO (o : Ou) : Int := if mayO o then 0 else 1
def offerR (o : Ou) (now : List Nw) : Ou × List Nw × Bool × Int :=
  if (mayO o && listB now) = false then (o, [], false, 1)
  else if o.flying = true ∨ o.acked = now then (o, [], false, 0)
  else if o.seq = 18446744073709551615 then (o, [], false, 2)
  else (⟨o.seq + 1, o.acked, (diffL o.acked now).take 512, true, 0⟩, (diffL o.acked now).take 512, true, 0)
def ackedR (o : Ou) (s : Nat) : Ou × Bool := if o.flying = true ∧ s = o.seq then (⟨o.seq, mrg o.acked o.sent, [], false, 0⟩, true) else (o, false)
def tickR (o : Ou) (r : Int) : Ou × Bool :=
  if o.flying = false then (o, false)
  else
    let g : Int := if o.age < 9223372036854775807 then o.age + 1 else o.age
    if r ≤ g then ({ o with age := 0 }, true) else ({ o with age := g }, false)
def takeR (last seq : Nat) : Nat × Bool × Bool :=
  if last < seq ∧ seq = last + 1 then (seq, true, true) else (last, false, decide (1 ≤ seq ∧ seq ≤ last))
structure OkO (o : Ou) : Prop where
  fit : o.Fit
  may : mayO o = true
theorem OkO.acked {o : Ou} (h : OkO o) : OkN o.acked := by
  have := h.may
  unfold mayO at this
  rw [Bool.and_eq_true] at this
  exact list_ok this.1 h.fit.acked
theorem OkO.fly {o : Ou} (h : OkO o) (hf : o.flying = true) : 1 ≤ o.seq ∧ 0 ≤ o.age ∧ 1 ≤ o.sent.length ∧ o.sent.length ≤ 512 ∧ orderB o.sent = true := by
  have := h.may
  unfold mayO flyB at this
  rw [hf] at this
  simp only [if_true, Bool.and_eq_true, decide_eq_true_eq] at this
  exact this.2
theorem OkO.rest {o : Ou} (h : OkO o) (hf : o.flying = false) : o.sent = [] ∧ o.age = 0 := by
  have := h.may
  unfold mayO restB at this
  rw [hf] at this
  simp only [Bool.and_eq_true, decide_eq_true_eq, Bool.false_eq_true, if_false] at this
  exact ⟨List.length_eq_zero_iff.1 this.2.1, this.2.2⟩
theorem OkO.order {o : Ou} (h : OkO o) : orderB o.sent = true := by
  cases hf : o.flying with
  | true => exact (h.fly hf).2.2.2.2
  | false => rw [(h.rest hf).1]; exact order_of (by simp [Rise]) (by simp)
theorem offer_ok {o : Ou} (h : OkO o) (now : List Nw) (hn : ∀ x ∈ now, x.Fit) : OkO (offerR o now).1 := by
  unfold offerR
  split
  · exact h
  · next h1 =>
    split
    · exact h
    · next h2 =>
      split
      · exact h
      · next h3 =>
        have hl : listB now = true := by
          rw [Bool.not_eq_false, Bool.and_eq_true] at h1; exact h1.2
        have hN := list_ok hl hn
        have hA := h.acked
        have ho := diff_take hA hN 512
        have hne : diffL o.acked now ≠ [] := fun e => h2 (Or.inr ((diff_nil hA hN).1 e))
        have hlen : 1 ≤ (diffL o.acked now).length := by
          cases hd : diffL o.acked now with
          | nil => exact absurd hd hne
          | cons => simp
        refine ⟨⟨by have := h.fit.seq; show o.seq + 1 < 2 ^ 64; omega, h.fit.acked, fun x hx => (diff_news hA hN x (List.mem_of_mem_take hx)).2, ⟨by show (-9223372036854775808 : Int) ≤ 0; omega, by show (0 : Int) < 9223372036854775808; omega⟩⟩, ?_⟩
        unfold mayO flyB
        simp only [if_true, Bool.and_eq_true, decide_eq_true_eq, List.length_take]
        exact ⟨ok_list hA, by omega, by omega, by omega, by omega, ho⟩
theorem acked_ok {o : Ou} (h : OkO o) (s : Nat) : OkO (ackedR o s).1 := by
  unfold ackedR
  split
  · next h1 =>
    have hm := okN_mrg h.acked h.order h.fit.sent
    refine ⟨⟨h.fit.seq, hm.fit, by simp, ⟨by show (-9223372036854775808 : Int) ≤ 0; omega, by show (0 : Int) < 9223372036854775808; omega⟩⟩, ?_⟩
    unfold mayO restB
    simp [ok_list hm]
  · exact h
theorem tick_ok {o : Ou} (h : OkO o) (r : Int) : OkO (tickR o r).1 := by
  unfold tickR
  split
  · exact h
  · next h1 =>
    rw [Bool.not_eq_false] at h1
    obtain ⟨f1, f2, f3, f4, f5⟩ := h.fly h1
    have ha := h.fit.age
    by_cases h2 : r ≤ (if o.age < 9223372036854775807 then o.age + 1 else o.age)
    · simp only [h2, if_true]
      refine ⟨⟨h.fit.seq, h.fit.acked, h.fit.sent, ⟨by show (-9223372036854775808 : Int) ≤ 0; omega, by show (0 : Int) < 9223372036854775808; omega⟩⟩, ?_⟩
      unfold mayO flyB
      simp only [h1, if_true, Bool.and_eq_true, decide_eq_true_eq]
      exact ⟨ok_list h.acked, f1, by omega, f3, f4, f5⟩
    · simp only [h2, if_false]
      have hg : 0 ≤ (if o.age < 9223372036854775807 then o.age + 1 else o.age) ∧ (if o.age < 9223372036854775807 then o.age + 1 else o.age) < 9223372036854775808 := by split <;> omega
      generalize (if o.age < 9223372036854775807 then o.age + 1 else o.age) = g at *
      refine ⟨⟨h.fit.seq, h.fit.acked, h.fit.sent, ⟨by show -9223372036854775808 ≤ g; omega, by show g < 9223372036854775808; omega⟩⟩, ?_⟩
      unfold mayO flyB
      simp only [h1, if_true, Bool.and_eq_true, decide_eq_true_eq]
      exact ⟨ok_list h.acked, f1, hg.1, f3, f4, f5⟩
/-- The zero one. -/
def ou0 : Ou := ⟨0, [], [], false, 0⟩
theorem ok0 : OkO ou0 := ⟨⟨by decide, by simp [ou0], by simp [ou0], by decide⟩, by
  unfold mayO restB ou0
  simp only [Bool.and_eq_true]
  exact ⟨ok_list okN_nil, by simp⟩⟩
end Go.Dq
