/- Caches, plainly: a list behind news, and of how many destinations it has something else. -/
import Derived.Test.YtfnmfmelcghjbaaFqA
import Derived.Test.YtfnmfmelcghjbaaWqAll
import Derived.Test.YtfnmfmelcghjbaaMqA
namespace Go.Kq
open Go.Mq Go.Fq
set_option linter.unusedVariables false
set_option linter.unusedSimpArgs false

/-- A destination as a number: by kind, then by dest. -/
def ky (n : Nw) : Int := n.kind * 18446744073709551616 + n.dest
def nwE (a b : Nw) : Bool := a.kind == b.kind && a.dest == b.dest && a.dist == b.dist && a.radius == b.radius && a.home == b.home
theorem nwE_iff {a b : Nw} : nwE a b = true ↔ a = b := by
  obtain ⟨a1, a2, a3, a4, a5⟩ := a
  obtain ⟨b1, b2, b3, b4, b5⟩ := b
  unfold nwE
  simp only [Bool.and_eq_true, beq_iff_eq, Nw.mk.injEq]
  constructor
  · rintro ⟨⟨⟨⟨h1, h2⟩, h3⟩, h4⟩, h5⟩; exact ⟨h2, h1, h3, h4, h5⟩
  · rintro ⟨h2, h1, h3, h4, h5⟩; exact ⟨⟨⟨⟨h1, h2⟩, h3⟩, h4⟩, h5⟩
theorem nwE_refl (a : Nw) : nwE a a = true := nwE_iff.2 rfl
def Rise (l : List Nw) : Prop := l.Pairwise (fun a b => ky a < ky b)
def fins (n : Nw) : List Nw := if infP n.dist then [] else [n]
def lo (n : Nw) (l : List Nw) : List Nw := l.filter (fun x => decide (ky x < ky n))
def eqs (n : Nw) (l : List Nw) : List Nw := l.filter (fun x => decide (ky x = ky n))
def hi (n : Nw) (l : List Nw) : List Nw := l.filter (fun x => decide (ky n < ky x))
/-- A list behind news. -/
def mrg : List Nw → List Nw → List Nw
  | l, [] => l
  | l, n :: ns => lo n l ++ fins n ++ mrg (hi n l) ns
def hasK (l : List Nw) (n : Nw) : Bool := l.any (fun x => ky x == ky n)
def hasE (l : List Nw) (n : Nw) : Bool := l.any (fun x => nwE x n)
def chgd (l : List Nw) (n : Nw) : Bool := if infP n.dist then hasK l n else !(hasE l n)
/-- How many destinations have something else. -/
def chg : List Nw → List Nw → Nat
  | _, [] => 0
  | l, n :: ns => (if chgd l n then 1 else 0) + chg (hi n l) ns
theorem mem_fins {n y : Nw} : y ∈ fins n ↔ y = n ∧ infP n.dist = false := by
  unfold fins
  cases infP n.dist <;> simp
theorem mem_lo {n y : Nw} {l : List Nw} : y ∈ lo n l ↔ y ∈ l ∧ ky y < ky n := by unfold lo; simp
theorem mem_eqs {n y : Nw} {l : List Nw} : y ∈ eqs n l ↔ y ∈ l ∧ ky y = ky n := by unfold eqs; simp
theorem mem_hi {n y : Nw} {l : List Nw} : y ∈ hi n l ↔ y ∈ l ∧ ky n < ky y := by unfold hi; simp
theorem rise_filter {l : List Nw} (h : Rise l) (p : Nw → Bool) : Rise (l.filter p) := List.Pairwise.filter _ h
theorem rise_cons {n : Nw} {l : List Nw} (h : Rise (n :: l)) : (∀ y ∈ l, ky n < ky y) ∧ Rise l := List.pairwise_cons.1 h
theorem mem_mrg : ∀ (ns l : List Nw), Rise ns → ∀ y, y ∈ mrg l ns ↔ (y ∈ ns ∧ infP y.dist = false) ∨ (y ∈ l ∧ ∀ n ∈ ns, ky n ≠ ky y)
  | [], l, _, y => by simp [mrg]
  | n :: ns, l, h, y => by
    obtain ⟨h1, h2⟩ := rise_cons h
    have ih := mem_mrg ns (hi n l) h2 y
    simp only [mrg, List.mem_append, ih, mem_lo, mem_fins, mem_hi, List.mem_cons]
    constructor
    · rintro ((⟨a, b⟩ | ⟨rfl, a⟩) | (⟨a, b⟩ | ⟨⟨a, b⟩, c⟩))
      · exact Or.inr ⟨a, fun m hm => by rcases hm with rfl | hm; omega; have := h1 m hm; omega⟩
      · exact Or.inl ⟨Or.inl rfl, a⟩
      · exact Or.inl ⟨Or.inr a, b⟩
      · exact Or.inr ⟨a, fun m hm => by rcases hm with rfl | hm; omega; exact c m hm⟩
    · rintro (⟨rfl | a, b⟩ | ⟨a, b⟩)
      · exact Or.inl (Or.inr ⟨rfl, b⟩)
      · exact Or.inr (Or.inl ⟨a, b⟩)
      · have hn := b n (Or.inl rfl)
        rcases Int.lt_trichotomy (ky y) (ky n) with c | c | c
        · exact Or.inl (Or.inl ⟨a, c⟩)
        · exact absurd c.symm hn
        · exact Or.inr (Or.inr ⟨⟨a, c⟩, fun m hm => b m (Or.inr hm)⟩)
theorem rise_mrg : ∀ (ns l : List Nw), Rise ns → Rise l → Rise (mrg l ns)
  | [], l, _, h => h
  | n :: ns, l, h, hl => by
    obtain ⟨h1, h2⟩ := rise_cons h
    have ih := rise_mrg ns (hi n l) h2 (rise_filter hl _)
    have hm : ∀ y ∈ mrg (hi n l) ns, ky n < ky y := fun y hy => by
      rcases (mem_mrg ns _ h2 y).1 hy with ⟨a, _⟩ | ⟨a, _⟩
      · exact h1 y a
      · exact (mem_hi.1 a).2
    have hf : Rise (fins n) := by unfold fins; cases infP n.dist <;> simp [Rise]
    refine List.pairwise_append.2 ⟨List.pairwise_append.2 ⟨rise_filter hl _, hf, fun a ha b hb => ?_⟩, ih, fun a ha b hb => ?_⟩
    · have := (mem_lo.1 ha).2; rw [(mem_fins.1 hb).1]; exact this
    · have hb2 := hm b hb
      rcases List.mem_append.1 ha with ha | ha
      · have := (mem_lo.1 ha).2; omega
      · rw [(mem_fins.1 ha).1]; exact hb2
theorem rise_ext : ∀ (a b : List Nw), Rise a → Rise b → (∀ y, y ∈ a ↔ y ∈ b) → a = b
  | [], [], _, _, _ => rfl
  | [], y :: b, _, _, h => absurd ((h y).2 (List.mem_cons_self ..)) (by simp)
  | x :: a, [], _, _, h => absurd ((h x).1 (List.mem_cons_self ..)) (by simp)
  | x :: a, y :: b, ha, hb, h => by
    obtain ⟨a1, a2⟩ := rise_cons ha
    obtain ⟨b1, b2⟩ := rise_cons hb
    have e : x = y := by
      rcases List.mem_cons.1 ((h x).1 (List.mem_cons_self ..)) with e | m
      · exact e
      · rcases List.mem_cons.1 ((h y).2 (List.mem_cons_self ..)) with e | m2
        · exact e.symm
        · have := b1 x m; have := a1 y m2; omega
    subst e
    rw [rise_ext a b a2 b2 (fun z => ?_)]
    constructor
    · intro hz
      rcases List.mem_cons.1 ((h z).1 (List.mem_cons_of_mem _ hz)) with e | m
      · subst e; have := a1 z hz; omega
      · exact m
    · intro hz
      rcases List.mem_cons.1 ((h z).2 (List.mem_cons_of_mem _ hz)) with e | m
      · subst e; have := b1 z hz; omega
      · exact m
theorem hasE_mem {l : List Nw} {y : Nw} : hasE l y = true ↔ y ∈ l := by
  unfold hasE
  simp only [List.any_eq_true, nwE_iff]
  constructor
  · rintro ⟨x, hx, rfl⟩; exact hx
  · intro h; exact ⟨y, h, rfl⟩
theorem hasK_mem {l : List Nw} {y : Nw} : hasK l y = true ↔ ∃ x ∈ l, ky x = ky y := by
  unfold hasK
  simp only [List.any_eq_true, beq_iff_eq]
theorem bool_ext {a b : Bool} (h : a = true ↔ b = true) : a = b := by
  cases a <;> cases b <;> simp at h ⊢
theorem countP_three (p : Nw → Bool) (n : Nw) : ∀ l : List Nw, l.countP p = (lo n l).countP p + (eqs n l).countP p + (hi n l).countP p
  | [] => rfl
  | x :: l => by
    have ih := countP_three p n l
    unfold lo eqs hi at ih ⊢
    simp only [List.filter_cons, decide_eq_true_eq]
    rcases Int.lt_trichotomy (ky x) (ky n) with c | c | c
    · rw [if_pos c, if_neg (by omega), if_neg (by omega)]; simp only [List.countP_cons]; omega
    · rw [if_neg (by omega), if_pos c, if_neg (by omega)]; simp only [List.countP_cons]; omega
    · rw [if_neg (by omega), if_neg (by omega), if_pos c]; simp only [List.countP_cons]; omega
theorem eqs_cons {n x : Nw} {l : List Nw} : eqs n (x :: l) = if ky x = ky n then x :: eqs n l else eqs n l := by
  unfold eqs; rw [List.filter_cons]; simp only [decide_eq_true_eq]
theorem hasK_cons {n x : Nw} {l : List Nw} : hasK (x :: l) n = (ky x == ky n || hasK l n) := rfl
theorem eqs_len {n : Nw} : ∀ {l : List Nw}, Rise l → (eqs n l).length = if hasK l n then 1 else 0
  | [], _ => rfl
  | x :: l, h => by
    obtain ⟨h1, h2⟩ := rise_cons h
    have ih := eqs_len (n := n) h2
    rw [eqs_cons, hasK_cons]
    by_cases c : ky x = ky n
    · have h3 : hasK l n = false := by
        rw [Bool.eq_false_iff]; intro hk
        obtain ⟨y, hy, e⟩ := hasK_mem.1 hk
        have := h1 y hy; omega
      rw [h3] at ih
      rw [if_pos c, List.length_cons, ih]
      simp [c]
    · have h3 : (ky x == ky n) = false := by simp [c]
      rw [if_neg c, h3, Bool.false_or]; exact ih
theorem countP_zero {p : Nw → Bool} {l : List Nw} (h : ∀ x ∈ l, p x = false) : l.countP p = 0 := by
  rw [List.countP_eq_zero]; intro x hx; rw [h x hx]; simp
theorem countP_full {p : Nw → Bool} {l : List Nw} (h : ∀ x ∈ l, p x = true) : l.countP p = l.length := by
  rw [List.countP_eq_length]; exact h
theorem chg_eq : ∀ (ns l : List Nw), Rise ns → Rise l → chg l ns = (mrg l ns).countP (fun y => !(hasE l y)) + l.countP (fun x => !(hasK (mrg l ns) x))
  | [], l, _, _ => by
    have e : mrg l [] = l := by simp [mrg]
    rw [e, countP_zero (fun x hx => by rw [hasE_mem.2 hx]; rfl), countP_zero (fun x hx => by rw [hasK_mem.2 ⟨x, hx, rfl⟩]; rfl)]
    rfl
  | n :: ns, l, h, hl => by
    obtain ⟨h1, h2⟩ := rise_cons h
    have hhi : Rise (hi n l) := rise_filter hl _
    have ih := chg_eq ns (hi n l) h2 hhi
    have hm : ∀ y ∈ mrg (hi n l) ns, ky n < ky y := fun y hy => by
      rcases (mem_mrg ns _ h2 y).1 hy with ⟨a, _⟩ | ⟨a, _⟩
      · exact h1 y a
      · exact (mem_hi.1 a).2
    show (if chgd l n then 1 else 0) + chg (hi n l) ns = _
    rw [ih]
    have T : (mrg l (n :: ns)).countP (fun y => !(hasE l y)) = (if !(hasE l n) && !(infP n.dist) then 1 else 0) + (mrg (hi n l) ns).countP (fun y => !(hasE (hi n l) y)) := by
      show (lo n l ++ fins n ++ mrg (hi n l) ns).countP _ = _
      rw [List.countP_append, List.countP_append, countP_zero (l := lo n l) (fun x hx => by show (!(hasE l x)) = false; rw [hasE_mem.2 (mem_lo.1 hx).1]; rfl)]
      congr 1
      · unfold fins; cases infP n.dist <;> simp [List.countP_cons]
      · apply List.countP_congr
        intro y hy
        have : hasE l y = hasE (hi n l) y := bool_ext (by rw [hasE_mem, hasE_mem, mem_hi]; exact ⟨fun e => ⟨e, hm y hy⟩, fun e => e.1⟩)
        rw [this]
    have U : l.countP (fun x => !(hasK (mrg l (n :: ns)) x)) = (if infP n.dist && hasK l n then 1 else 0) + (hi n l).countP (fun x => !(hasK (mrg (hi n l) ns) x)) := by
      rw [countP_three _ n l]
      have u1 : (lo n l).countP (fun x => !(hasK (mrg l (n :: ns)) x)) = 0 := countP_zero (fun x hx => by
        show (!(hasK (mrg l (n :: ns)) x)) = false
        rw [hasK_mem.2 ⟨x, by show x ∈ lo n l ++ fins n ++ mrg (hi n l) ns; simp [hx], rfl⟩]; rfl)
      have u3 : (hi n l).countP (fun x => !(hasK (mrg l (n :: ns)) x)) = (hi n l).countP (fun x => !(hasK (mrg (hi n l) ns) x)) := by
        apply List.countP_congr
        intro x hx
        have hx2 := (mem_hi.1 hx).2
        have : hasK (mrg l (n :: ns)) x = hasK (mrg (hi n l) ns) x := bool_ext (by
          rw [hasK_mem, hasK_mem]
          constructor
          · rintro ⟨z, hz, e⟩
            have hz2 : z ∈ lo n l ++ fins n ++ mrg (hi n l) ns := hz
            rcases List.mem_append.1 hz2 with hz2 | hz2
            · rcases List.mem_append.1 hz2 with hz2 | hz2
              · have := (mem_lo.1 hz2).2; omega
              · rw [(mem_fins.1 hz2).1] at e; omega
            · exact ⟨z, hz2, e⟩
          · rintro ⟨z, hz, e⟩
            exact ⟨z, by show z ∈ lo n l ++ fins n ++ mrg (hi n l) ns; simp [hz], e⟩)
        rw [this]
      have u2 : (eqs n l).countP (fun x => !(hasK (mrg l (n :: ns)) x)) = if infP n.dist && hasK l n then 1 else 0 := by
        cases hi' : infP n.dist with
        | true =>
          rw [countP_full, eqs_len hl, Bool.true_and]
          intro x hx
          have hx2 := (mem_eqs.1 hx).2
          have : hasK (mrg l (n :: ns)) x = false := by
            rw [Bool.eq_false_iff]
            intro hk
            obtain ⟨z, hz, e⟩ := hasK_mem.1 hk
            have hz2 : z ∈ lo n l ++ fins n ++ mrg (hi n l) ns := hz
            rcases List.mem_append.1 hz2 with hz2 | hz2
            · rcases List.mem_append.1 hz2 with hz2 | hz2
              · have := (mem_lo.1 hz2).2; omega
              · have := (mem_fins.1 hz2).2; rw [hi'] at this; cases this
            · have := hm z hz2; omega
          rw [this]; rfl
        | false =>
          rw [Bool.false_and, countP_zero]
          · rfl
          intro x hx
          have hx2 := (mem_eqs.1 hx).2
          rw [hasK_mem.2 ⟨n, by show n ∈ lo n l ++ fins n ++ mrg (hi n l) ns; simp [mem_fins, hi'], hx2.symm⟩]; rfl
      rw [u1, u2, u3]; omega
    rw [T, U]
    have c : (if chgd l n = true then 1 else 0 : Nat) = (if (!(hasE l n) && !(infP n.dist)) = true then 1 else 0) + (if (infP n.dist && hasK l n) = true then 1 else 0) := by
      unfold chgd
      cases infP n.dist <;> cases hasE l n <;> cases hasK l n <;> rfl
    rw [c]
    omega
/-- The document's way to merge. -/
def mD : List Nw → List Nw → List Nw
  | [], ns => ns.flatMap fins
  | x :: l, [] => x :: mD l []
  | x :: l, n :: ns => if ky n < ky x then fins n ++ mD (x :: l) ns else if ky x < ky n then x :: mD l (n :: ns) else mD l (n :: ns)
termination_by l ns => l.length + ns.length
theorem mem_mD (l ns : List Nw) (hl : Rise l) (hn : Rise ns) : ∀ y, y ∈ mD l ns ↔ (y ∈ ns ∧ infP y.dist = false) ∨ (y ∈ l ∧ ∀ n ∈ ns, ky n ≠ ky y) := by
  induction l, ns using mD.induct with
  | case1 ns => intro y; rw [mD]; simp only [List.mem_flatMap, mem_fins]; constructor
                · rintro ⟨a, ha, rfl, hb⟩; exact Or.inl ⟨ha, hb⟩
                · rintro (⟨a, b⟩ | ⟨a, _⟩)
                  · exact ⟨y, a, rfl, b⟩
                  · simp at a
  | case2 x l ih =>
    intro y; rw [mD, List.mem_cons, ih (rise_cons hl).2 hn y]; simp
  | case3 x l n ns hlt ih =>
    intro y
    obtain ⟨n1, n2⟩ := rise_cons hn
    obtain ⟨l1, l2⟩ := rise_cons hl
    rw [mD, if_pos hlt, List.mem_append, mem_fins, ih hl n2 y]
    constructor
    · rintro (⟨rfl, a⟩ | (⟨a, b⟩ | ⟨a, b⟩))
      · exact Or.inl ⟨List.mem_cons_self .., a⟩
      · exact Or.inl ⟨List.mem_cons_of_mem _ a, b⟩
      · refine Or.inr ⟨a, fun m hm => ?_⟩
        rcases List.mem_cons.1 hm with rfl | hm
        · rcases List.mem_cons.1 a with rfl | a
          · omega
          · have := l1 y a; omega
        · exact b m hm
    · rintro (⟨a, b⟩ | ⟨a, b⟩)
      · rcases List.mem_cons.1 a with rfl | a
        · exact Or.inl ⟨rfl, b⟩
        · exact Or.inr (Or.inl ⟨a, b⟩)
      · exact Or.inr (Or.inr ⟨a, fun m hm => b m (List.mem_cons_of_mem _ hm)⟩)
  | case4 x l n ns hlt hgt ih =>
    intro y
    obtain ⟨n1, n2⟩ := rise_cons hn
    obtain ⟨l1, l2⟩ := rise_cons hl
    rw [mD, if_neg hlt, if_pos hgt, List.mem_cons, ih l2 hn y]
    constructor
    · rintro (rfl | (⟨a, b⟩ | ⟨a, b⟩))
      · refine Or.inr ⟨List.mem_cons_self .., fun m hm => ?_⟩
        rcases List.mem_cons.1 hm with rfl | hm
        · omega
        · have := n1 m hm; omega
      · exact Or.inl ⟨a, b⟩
      · exact Or.inr ⟨List.mem_cons_of_mem _ a, b⟩
    · rintro (⟨a, b⟩ | ⟨a, b⟩)
      · exact Or.inr (Or.inl ⟨a, b⟩)
      · rcases List.mem_cons.1 a with rfl | a
        · exact Or.inl rfl
        · exact Or.inr (Or.inr ⟨a, b⟩)
  | case5 x l n ns hlt hgt ih =>
    intro y
    obtain ⟨l1, l2⟩ := rise_cons hl
    rw [mD, if_neg hlt, if_neg hgt, ih l2 hn y]
    constructor
    · rintro (h | ⟨a, b⟩)
      · exact Or.inl h
      · exact Or.inr ⟨List.mem_cons_of_mem _ a, b⟩
    · rintro (h | ⟨a, b⟩)
      · exact Or.inl h
      · rcases List.mem_cons.1 a with rfl | a
        · exact absurd (show ky n = ky y by omega) (b n (List.mem_cons_self ..))
        · exact Or.inr ⟨a, b⟩
theorem rise_mD (l ns : List Nw) (hl : Rise l) (hn : Rise ns) : Rise (mD l ns) := by
  induction l, ns using mD.induct with
  | case1 ns =>
    rw [mD]
    induction ns with
    | nil => exact List.Pairwise.nil
    | cons n ns ih =>
      obtain ⟨n1, n2⟩ := rise_cons hn
      rw [List.flatMap_cons]
      refine List.pairwise_append.2 ⟨by unfold fins; cases infP n.dist <;> simp, ih n2, fun a ha b hb => ?_⟩
      rw [(mem_fins.1 ha).1]
      obtain ⟨c, hc, hb⟩ := List.mem_flatMap.1 hb
      rw [(mem_fins.1 hb).1]; exact n1 c hc
  | case2 x l ih =>
    obtain ⟨l1, l2⟩ := rise_cons hl
    rw [mD]
    refine List.pairwise_cons.2 ⟨fun y hy => ?_, ih l2 hn⟩
    rcases (mem_mD l [] l2 hn y).1 hy with ⟨a, _⟩ | ⟨a, _⟩
    · simp at a
    · exact l1 y a
  | case3 x l n ns hlt ih =>
    obtain ⟨n1, n2⟩ := rise_cons hn
    obtain ⟨l1, l2⟩ := rise_cons hl
    rw [mD, if_pos hlt]
    refine List.pairwise_append.2 ⟨by unfold fins; cases infP n.dist <;> simp, ih hl n2, fun a ha b hb => ?_⟩
    rw [(mem_fins.1 ha).1]
    rcases (mem_mD _ _ hl n2 b).1 hb with ⟨c, _⟩ | ⟨c, _⟩
    · exact n1 b c
    · rcases List.mem_cons.1 c with rfl | c
      · exact hlt
      · have := l1 b c; omega
  | case4 x l n ns hlt hgt ih =>
    obtain ⟨n1, n2⟩ := rise_cons hn
    obtain ⟨l1, l2⟩ := rise_cons hl
    rw [mD, if_neg hlt, if_pos hgt]
    refine List.pairwise_cons.2 ⟨fun y hy => ?_, ih l2 hn⟩
    rcases (mem_mD _ _ l2 hn y).1 hy with ⟨c, _⟩ | ⟨c, _⟩
    · rcases List.mem_cons.1 c with rfl | c
      · exact hgt
      · have := n1 y c; omega
    · exact l1 y c
  | case5 x l n ns hlt hgt ih =>
    rw [mD, if_neg hlt, if_neg hgt]
    exact ih (rise_cons hl).2 hn
theorem mD_eq {l ns : List Nw} (hl : Rise l) (hn : Rise ns) : mD l ns = mrg l ns :=
  rise_ext _ _ (rise_mD l ns hl hn) (rise_mrg ns l hn hl) (fun y => by rw [mem_mD l ns hl hn, mem_mrg ns l hn])
theorem lo_nil_of {t x : Nw} {l : List Nw} (h : Rise (x :: l)) (hx : ¬ ky x < ky t) : lo t (x :: l) = [] := by
  obtain ⟨h1, -⟩ := rise_cons h
  rw [List.eq_nil_iff_forall_not_mem]
  intro y hy
  obtain ⟨a, b⟩ := mem_lo.1 hy
  rcases List.mem_cons.1 a with rfl | a
  · exact hx b
  · have := h1 y a; omega
theorem lo_cons {t x : Nw} {l : List Nw} : lo t (x :: l) = if ky x < ky t then x :: lo t l else lo t l := by
  unfold lo; rw [List.filter_cons]; simp only [decide_eq_true_eq]
theorem hi_cons {t x : Nw} {l : List Nw} : hi t (x :: l) = if ky t < ky x then x :: hi t l else hi t l := by
  unfold hi; rw [List.filter_cons]; simp only [decide_eq_true_eq]
theorem take_lo (t : Nw) : ∀ {l : List Nw}, Rise l → l.take (lo t l).length = lo t l
  | [], _ => rfl
  | x :: l, h => by
    by_cases c : ky x < ky t
    · rw [lo_cons, if_pos c, List.length_cons, List.take_succ_cons, take_lo t (rise_cons h).2]
    · rw [lo_nil_of h c]; rfl
theorem hi_all {t : Nw} : ∀ {l : List Nw}, (∀ y ∈ l, ky t < ky y) → hi t l = l ∧ eqs t l = []
  | [], _ => ⟨rfl, rfl⟩
  | x :: l, h => by
    obtain ⟨a, b⟩ := hi_all (l := l) (fun y hy => h y (List.mem_cons_of_mem _ hy))
    have hx := h x (List.mem_cons_self ..)
    rw [hi_cons, eqs_cons, if_pos hx, if_neg (by omega), a, b]
    exact ⟨rfl, rfl⟩
theorem drop_lo (t : Nw) : ∀ {l : List Nw}, Rise l → l.drop (lo t l).length = eqs t l ++ hi t l
  | [], _ => rfl
  | x :: l, h => by
    obtain ⟨h1, h2⟩ := rise_cons h
    by_cases c : ky x < ky t
    · rw [lo_cons, if_pos c, List.length_cons, List.drop_succ_cons, drop_lo t h2, eqs_cons, if_neg (by omega), hi_cons, if_neg (by omega)]
    · rw [lo_nil_of h c]
      show x :: l = _
      by_cases d : ky x = ky t
      · obtain ⟨a, b⟩ := hi_all (t := t) (l := l) (fun y hy => by have := h1 y hy; omega)
        rw [eqs_cons, if_pos d, hi_cons, if_neg (by omega), a, b]; rfl
      · obtain ⟨a, b⟩ := hi_all (t := t) (l := l) (fun y hy => by have := h1 y hy; omega)
        rw [eqs_cons, if_neg d, hi_cons, if_pos (by omega), a, b]; rfl
theorem lo_le (t : Nw) (l : List Nw) : (lo t l).length ≤ l.length := List.length_filter_le _ _
theorem cnt_spec (t : Nw) {l : List Nw} (h : Rise l) (i : Nat) (hi' : i < l.length) : i < (lo t l).length ↔ ky l[i] < ky t := by
  constructor
  · intro hlt
    have hm : l[i] ∈ lo t l := by
      have h1 : l[i] ∈ l.take (lo t l).length := List.mem_take_iff_getElem.2 ⟨i, by omega, rfl⟩
      rw [take_lo t h] at h1
      exact h1
    exact (mem_lo.1 hm).2
  · intro hk
    apply Decidable.byContradiction
    intro hn
    have hm : l[i] ∈ l.drop (lo t l).length := List.mem_drop_iff_getElem.2 ⟨i - (lo t l).length, by omega, by congr 1; omega⟩
    rw [drop_lo t h] at hm
    rcases List.mem_append.1 hm with hm | hm
    · have := (mem_eqs.1 hm).2; omega
    · have := (mem_hi.1 hm).2; omega
theorem has_at (t : Nw) {l : List Nw} (h : Rise l) : hasK l t = true ↔ ∃ hk : (lo t l).length < l.length, ky (l[(lo t l).length]'hk) = ky t := by
  constructor
  · intro hk
    have hl := eqs_len (n := t) h
    rw [hk] at hl
    have e := congrArg List.length (drop_lo t h)
    rw [List.length_drop, List.length_append, hl] at e
    simp only [if_true] at e
    have hlt : (lo t l).length < l.length := by omega
    refine ⟨hlt, ?_⟩
    obtain ⟨x, r, hx⟩ : ∃ x r, eqs t l = x :: r := by
      cases h2 : eqs t l with
      | nil => rw [h2] at hl; cases hl
      | cons x r => exact ⟨x, r, rfl⟩
    have e2 : l[(lo t l).length]? = (l.drop (lo t l).length)[0]? := by simp
    rw [drop_lo t h, hx] at e2
    simp only [List.cons_append, List.getElem?_cons_zero] at e2
    have e3 : l[(lo t l).length] = x := by
      rw [List.getElem?_eq_getElem hlt] at e2; exact Option.some.inj e2
    rw [e3]
    exact (mem_eqs.1 (by rw [hx]; exact List.mem_cons_self ..)).2
  · rintro ⟨hk, e⟩
    exact hasK_mem.2 ⟨_, List.getElem_mem hk, e⟩
theorem eqs_one {t : Nw} {l : List Nw} (h : Rise l) : (hasK l t = true ∧ ∃ o, eqs t l = [o] ∧ o ∈ l ∧ ky o = ky t) ∨ (hasK l t = false ∧ eqs t l = []) := by
  have hl := eqs_len (n := t) h
  cases hk : hasK l t with
  | true =>
    rw [hk] at hl
    match he : eqs t l with
    | [o] => exact Or.inl ⟨rfl, o, rfl, mem_eqs.1 (by rw [he]; exact List.mem_cons_self ..)⟩
    | [] => rw [he] at hl; cases hl
    | _ :: _ :: _ => rw [he] at hl; simp at hl
  | false =>
    rw [hk] at hl
    exact Or.inr ⟨rfl, List.length_eq_zero_iff.1 hl⟩
/-- News in their order, as the program asks it piece by piece. -/
theorem told_512 {l : List Nw} (h : l.length ≤ 512) : toldB l = orderB l := by unfold toldB; rw [decide_eq_true h, Bool.true_and]
theorem order_iff {l : List Nw} : orderB l = true ↔ OrderP l := by unfold orderB; exact decide_eq_true_iff
theorem order_split {l : List Nw} (h : 512 < l.length) : orderB l = (toldB (l.take 512) && orderB (l.drop 511)) := by
  rw [told_512 (by rw [List.length_take]; omega)]
  apply bool_ext
  rw [Bool.and_eq_true, order_iff, order_iff, order_iff]
  constructor
  · intro hp
    refine ⟨fun k hk => ?_, fun k hk => ?_⟩
    · rw [List.length_take] at hk
      have := hp k (by omega)
      simp only [List.getElem_take]
      exact this
    · rw [List.length_drop] at hk
      have := hp (511 + k) (by omega)
      simp only [List.getElem_drop]
      refine ⟨this.1, fun h0 => ?_⟩
      have h2 := this.2 (by omega)
      have e : 511 + (k - 1) = 511 + k - 1 := by omega
      simp only [e]
      exact h2
  · rintro ⟨ha, hb⟩ k hk
    by_cases c : k < 512
    · have := ha k (by rw [List.length_take]; omega)
      simp only [List.getElem_take] at this
      exact this
    · have e2 : 511 + (k - 511 - 1) = k - 1 := by clear ha hb hk; omega
      have e : 511 + (k - 511) = k := by clear ha hb hk e2; omega
      have h3 : 0 < k - 511 := by clear ha hb hk e e2; omega
      have := hb (k - 511) (by rw [List.length_drop]; omega)
      simp only [List.getElem_drop] at this
      simp only [e] at this
      refine ⟨this.1, fun _ => ?_⟩
      have h4 := this.2 h3
      simp only [e2] at h4
      exact h4
/-- News that may be: what a destination's number lies between. -/
theorem num_bd {n : Int} (h : numB n = true) : 1 ≤ n ∧ n ≤ 2147483647 := by
  unfold numB Iq.idE at h
  cases hb : Iq.idB n with
  | false => rw [hb] at h; exact absurd h (by decide)
  | true =>
    unfold Iq.idB at hb
    simp only [Bool.and_eq_true, decide_eq_true_eq] at hb
    omega
theorem news_bd {n : Nw} (h : newsB n = true) : (1 ≤ n.dest ∧ n.dest ≤ 2147483647) ∧ (n.kind = 1 ∨ n.kind = 2) ∧ farB n.dist = true := by
  unfold newsB at h
  simp only [Bool.and_eq_true] at h
  obtain ⟨⟨h1, h2⟩, h3⟩ := h
  refine ⟨num_bd h1, ?_, h2⟩
  by_cases e1 : n.kind = 1
  · exact Or.inl e1
  · by_cases e2 : n.kind = 2
    · exact Or.inr e2
    · rw [if_neg (by simpa using e1), if_neg (by simpa using e2)] at h3; cases h3
theorem ahead_ky {a b : Nw} (ha : newsB a = true) (hb : newsB b = true) : aheadB a b = decide (ky a < ky b) := by
  obtain ⟨a1, a2, -⟩ := news_bd ha
  obtain ⟨b1, b2, -⟩ := news_bd hb
  unfold aheadB ky
  by_cases e : a.kind = b.kind
  · rw [if_pos (by simp [e])]; apply bool_ext; simp only [decide_eq_true_eq]; omega
  · rw [if_neg (by simp [e])]; apply bool_ext; simp only [decide_eq_true_eq]; omega
theorem rise_idx {l : List Nw} (h : ∀ k (hk : k < l.length), 0 < k → ky (l[k - 1]'(by omega)) < ky l[k]) : Rise l := by
  have hs : ∀ (j i : Nat) (hi : i < j) (hj : j < l.length), ky (l[i]'(by omega)) < ky l[j] := by
    intro j
    induction j with
    | zero => intro i hi; omega
    | succ j ih =>
      intro i hi hj
      have h1 := h (j + 1) hj (by omega)
      simp only [Nat.add_sub_cancel] at h1
      by_cases e : i = j
      · subst e; exact h1
      · have := ih i (by omega) (by omega); omega
  exact List.pairwise_iff_getElem.2 (fun i j hi hj hij => hs j i hij hj)
theorem order_rise {l : List Nw} (h : orderB l = true) : Rise l ∧ ∀ n ∈ l, newsB n = true := by
  have hp := order_iff.1 h
  have hn : ∀ n ∈ l, newsB n = true := fun n hn => by
    obtain ⟨k, hk, rfl⟩ := List.getElem_of_mem hn
    exact (hp k hk).1
  refine ⟨rise_idx (fun k hk h0 => ?_), hn⟩
  have := (hp k hk).2 h0
  rw [ahead_ky (hn _ (List.getElem_mem _)) (hn _ (List.getElem_mem _))] at this
  simpa using this
theorem rise_len {l : List Nw} (h : Rise l) (hn : ∀ n ∈ l, newsB n = true) : l.length ≤ 4294967294 := by
  have key : ∀ (l : List Nw), Rise l → (∀ n ∈ l, newsB n = true) → ∀ (c : Int), (∀ n ∈ l, n.kind = 1 → n.dest ≤ 2147483647 - c) → 0 ≤ c → True := fun _ _ _ _ _ _ => trivial
  -- kinds apart: those of kind 1, then those of kind 2
  have hsub : ∀ (k : Int), ∀ (l : List Nw), Rise l → (∀ n ∈ l, newsB n = true) → (∀ n ∈ l, n.kind = k) → ∀ m : Nat, (∀ n ∈ l, n.dest ≤ (m : Int)) → l.length ≤ m := by
    intro k l
    induction l with
    | nil => intro _ _ _ m _; simp
    | cons x l ih =>
      intro hr hb hk m hm
      obtain ⟨r1, r2⟩ := rise_cons hr
      have hx := news_bd (hb x (List.mem_cons_self ..))
      have := ih r2 (fun n hn => hb n (List.mem_cons_of_mem _ hn)) (fun n hn => hk n (List.mem_cons_of_mem _ hn))
      clear ih
      have hxm := hm x (List.mem_cons_self ..)
      -- shift down by one: all behind x are above it
      have hs : ∀ (l : List Nw), Rise l → (∀ n ∈ l, n.kind = k) → ∀ (a : Int) (m : Nat), (∀ n ∈ l, a < n.dest ∧ n.dest ≤ a + (m : Int)) → l.length ≤ m := by
        intro l
        induction l with
        | nil => intro _ _ a m _; simp
        | cons y l ih2 =>
          intro hr2 hk2 a m hm2
          obtain ⟨s1, s2⟩ := rise_cons hr2
          have hy := hm2 y (List.mem_cons_self ..)
          have hyk := hk2 y (List.mem_cons_self ..)
          obtain ⟨m, rfl⟩ : ∃ q, m = q + 1 := ⟨m - 1, by omega⟩
          have := ih2 s2 (fun n hn => hk2 n (List.mem_cons_of_mem _ hn)) (a + 1) m (fun n hn => by
            have h1 := s1 n hn
            have h2 := hm2 n (List.mem_cons_of_mem _ hn)
            have h3 := hk2 n (List.mem_cons_of_mem _ hn)
            unfold ky at h1
            rw [hyk, h3] at h1
            omega)
          simp; omega
      exact hs (x :: l) hr hk 0 m (fun n hn => by
        have h1 := news_bd (hb n hn)
        have h2 := hm n hn
        omega)
  have h1 := hsub 1 (l.filter (fun n => decide (n.kind = 1))) (rise_filter h _) (fun n hn2 => hn n (List.mem_filter.1 hn2).1) (fun n hn2 => by simpa using (List.mem_filter.1 hn2).2) 2147483647 (fun n hn2 => (news_bd (hn n (List.mem_filter.1 hn2).1)).1.2)
  have h2 := hsub 2 (l.filter (fun n => !decide (n.kind = 1))) (rise_filter h _) (fun n hn2 => hn n (List.mem_filter.1 hn2).1) (fun n hn2 => by
      have a := news_bd (hn n (List.mem_filter.1 hn2).1)
      have b : ¬ n.kind = 1 := by simpa using (List.mem_filter.1 hn2).2
      omega) 2147483647 (fun n hn2 => (news_bd (hn n (List.mem_filter.1 hn2).1)).1.2)
  have e : ∀ l : List Nw, l.length = (l.filter (fun n => decide (n.kind = 1))).length + (l.filter (fun n => !decide (n.kind = 1))).length := by
    intro l
    induction l with
    | nil => rfl
    | cons x l ih =>
      by_cases c : x.kind = 1
      · simp only [List.filter_cons, c, decide_true, Bool.not_true, if_true, List.length_cons]
        simp; omega
      · simp only [List.filter_cons, c, decide_false, Bool.not_false, if_true, List.length_cons]
        simp; omega
  rw [e l]; omega
/-- Distances are the same just where their bits are. -/
theorem far_num {a : Nat} (h : farB a = true) (h64 : a < 2 ^ 64) : nanB a = false ∧ ng a = false ∧ ik a = (a : Int) := by
  have hr : farR a = true := by rw [far_eq a h64]; exact h
  unfold farR at hr
  have hnan : nanB a = false := by
    cases hn : nanB a with
    | false => rfl
    | true =>
      rw [infP_nan hn, cmp_gt, hn] at hr
      simp only [Bool.false_or, Bool.true_or, Bool.not_true, Bool.false_and, Bool.or_false, beq_iff_eq] at hr
      have : a = 0 := by omega
      rw [this, nan_zero] at hn; cases hn
  have hng : ng a = false := by
    cases hs : ng a with
    | false => rfl
    | true =>
      have hk : ¬ (ik 0 < ik a) := by rw [ik_zero]; unfold ik; rw [hs]; simp
      rw [infP_ng hs, cmp_gt] at hr
      simp only [hk, decide_false, Bool.and_false, Bool.false_and, Bool.or_false, Bool.false_or, beq_iff_eq] at hr
      have : a = 0 := by omega
      rw [this] at hs; exact absurd hs (by decide +kernel)
  refine ⟨hnan, hng, ?_⟩
  have hb : a < 2 ^ 63 := by
    have := ng_iff a h64; rw [hng] at this
    have h2 := of_decide_eq_false this.symm; omega
  unfold ik; rw [hng]; unfold mg; rw [Nat.mod_eq_of_lt hb]; simp
theorem far_same {a b : Nat} (ha : farB a = true) (hb : farB b = true) (ha4 : a < 2 ^ 64) (hb4 : b < 2 ^ 64) : (FloatKind.f64.format.order a b == some .eq) = (a == b) := by
  obtain ⟨a1, -, a3⟩ := far_num ha ha4
  obtain ⟨b1, -, b3⟩ := far_num hb hb4
  rw [od_num a1 b1, a3, b3]
  apply bool_ext
  simp only [beq_iff_eq, Option.some.injEq, Int.compare_eq_eq]
  omega
end Go.Kq
