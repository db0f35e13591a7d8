/- Caches, the program: a list behind news. -/
import Derived.Test.YtjhmfmpaaljegaaGreatKwB
import Derived.Laws.StructEq
namespace Go.Proofs.YtjhmfmpaaljegaaGreat
open Go.RowKit Go.Lib Go.Ow Go.Cw Go.Fq Go.Mq Go.Kq Go.Kw
set_option linter.unusedVariables false
set_option linter.unusedSimpArgs false
set_option maxRecDepth 100000

set_option maxHeartbeats 1000000 in
theorem nNe_run (x y : Nw) (hd : (FloatKind.f64.format.order x.dist y.dist == some .eq) = (x.dist == y.dist)) (hr : (FloatKind.f64.format.order x.radius y.radius == some .eq) = (x.radius == y.radius)) (V : World) :
    (binOp .neq 61 (nwV x) (nwV y)).run Tryz.prog V = .ok (.bool (!(nwE x y))) V := by
  have hS : Tryz.prog.underlying 61 = some (.struct (Tryz.prog.fieldsOf 61)) := by kernel_rfl
  have hp : Tryz.prog.stoodInHeld 61 = false := by kernel_rfl
  have hF : ∀ (d : Nat) (a b : Nat) (w : World), (Op.equalIn (d + 1) 28 (.float .f64 a) (.float .f64 b)).run Tryz.prog w = .ok (FloatKind.f64.format.order a b == some .eq) w := fun d a b w => by
    simp [Op.equalIn, Op.floatEq, run_underlying Tryz.underlying28]
  have u3 := Tryz.underlying3
  simp only [nwV]
  rw [run_neq_struct, show (10000 : Nat) = 9999 + 1 from rfl, run_equalIn_agg V 9999 61 _ _ hS hp]
  simp only [Program.fieldsOf, Tryz.underlying61]
  unfold nwE
  cases e1 : x.dest == y.dest <;> cases e2 : x.kind == y.kind <;> cases e3 : x.dist == y.dist <;> cases e4 : x.radius == y.radius <;> cases e5 : x.home == y.home
  all_goals
    rw [e3] at hd
    rw [e4] at hr
    go_simp
    try rfl
def zeroN : Nw := ⟨0, 0, 0, 0, 0⟩
theorem far_zero : farB 0 = true := by decide +kernel
theorem far_top : farB 9218868437227405312 = true := by decide +kernel
theorem inf_top {a : Nat} (h : infP a = true) : True := trivial
/-- A radius that may be is a distance that may be. -/
theorem news_rad {n : Nw} (h : newsB n = true) (hf : n.Fit) : (FloatKind.f64.format.order n.radius n.radius == some .eq) = true ∧ nanB n.radius = false ∧ ng n.radius = false := by
  have hh : farB n.radius = true := by
    unfold newsB at h
    simp only [Bool.and_eq_true] at h
    obtain ⟨_, h3⟩ := h
    have hz : noHome n = true → farB n.radius = true := fun e => by
      unfold noHome at e
      simp only [Bool.and_eq_true, beq_iff_eq] at e
      have : n.radius = 0 := by omega
      rw [this]; exact far_zero
    have hi : itsHome n = true → farB n.radius = true := fun e => by
      unfold itsHome at e
      cases hp : infP n.radius with
      | true => rw [← far_eq _ hf.r]; unfold farR; rw [hp]; rfl
      | false => rw [hp] at e; simp only [Bool.false_eq_true, if_false, Bool.and_eq_true] at e; exact e.1
    split at h3
    · exact hz h3
    · split at h3
      · split at h3
        · exact hz h3
        · exact hi h3
      · cases h3
  obtain ⟨a, b, c⟩ := far_num hh hf.r
  exact ⟨by rw [od_self a]; rfl, a, b⟩
theorem same_far {a b : Nat} (ha : nanB a = false ∧ ng a = false) (hb : nanB b = false ∧ ng b = false) (ha4 : a < 2 ^ 64) (hb4 : b < 2 ^ 64) : (FloatKind.f64.format.order a b == some .eq) = (a == b) := by
  have k : ∀ x : Nat, ng x = false → x < 2 ^ 64 → ik x = (x : Int) := fun x hx hx4 => by
    have hb : x < 2 ^ 63 := by
      have := ng_iff x hx4; rw [hx] at this
      have h2 := of_decide_eq_false this.symm; omega
    unfold ik; rw [hx]; unfold mg; rw [Nat.mod_eq_of_lt hb]; simp
  rw [od_num ha.1 hb.1, k a ha.2 ha4, k b hb.2 hb4]
  apply bool_ext
  simp only [beq_iff_eq, Option.some.injEq, Int.compare_eq_eq]
  omega
/-- What may be compared: News that may be, and none. -/
def Cmp (x : Nw) : Prop := nanB x.dist = false ∧ ng x.dist = false ∧ nanB x.radius = false ∧ ng x.radius = false ∧ x.dist < 2 ^ 64 ∧ x.radius < 2 ^ 64
theorem cmp_news {n : Nw} (h : newsB n = true) (hf : n.Fit) : Cmp n := by
  obtain ⟨a1, a2, -⟩ := far_num (news_bd h).2.2 hf.x
  obtain ⟨-, b1, b2⟩ := news_rad h hf
  exact ⟨a1, a2, b1, b2, hf.x, hf.r⟩
theorem cmp_zero : Cmp zeroN := ⟨by decide +kernel, by decide +kernel, by decide +kernel, by decide +kernel, by decide, by decide⟩
theorem cmp_run {x y : Nw} (hx : Cmp x) (hy : Cmp y) (V : World) : (binOp .neq 61 (nwV x) (nwV y)).run Tryz.prog V = .ok (.bool (!(nwE x y))) V :=
  nNe_run x y (same_far ⟨hx.1, hx.2.1⟩ ⟨hy.1, hy.2.1⟩ hx.2.2.2.2.1 hy.2.2.2.2.1) (same_far ⟨hx.2.2.1, hx.2.2.2.1⟩ ⟨hy.2.2.1, hy.2.2.2.1⟩ hx.2.2.2.2.2 hy.2.2.2.2.2) V
/-- What merge has behind its first rounds. -/
structure Mg (w : World) (B : Nat) (l news : List Nw) (k : Nat) (L M : List Nw) (ch : Nat) (aL : Option Addr) (cL : Nat) (aM : Option Addr) (cM : Nat) (wr : World) : Prop where
  kle : k ≤ news.length
  rl : Rise L
  sub : ∀ x ∈ L, x ∈ l
  len : L.length ≤ cL ∧ cL ≤ 9223372036854775807
  ml : M.length + L.length ≤ l.length + k
  list : NewsIn wr B L aL
  row : ∃ r, w.heap.size < r ∧ Nr wr r (.slice aM M.length cM) M
  tot : M ++ mrg L (news.drop k) = mrg l news
  num : ch + chg L (news.drop k) = chg l news
  chle : ch ≤ k
  zero : wr.rangeAt w.heap.size 0 (nC zeroN)
  bel : Below w.heap.size w wr
  siz : w.heap.size < wr.heap.size
theorem nr_fresh {w : World} {r : Nat} {v : Value} {l : List Nw} (h : Nr w r v l) (N : Nat) : ∃ r0, Nr w r0 v l ∧ (r0 = N ∨ (r0 = r ∧ r < w.heap.size)) := by
  rcases h with h | ⟨o, cap, cur, h1, h2, h3⟩
  · exact ⟨N, Or.inl h, Or.inl rfl⟩
  · exact ⟨r, Or.inr ⟨o, cap, cur, h1, h2, h3⟩, Or.inr ⟨rfl, (Array.getElem?_eq_some_iff.1 h2).1⟩⟩
theorem below_keep {B : Nat} {a b : World} (h : Below B a b) {x : Nat} (hx : x < B) {o : Nat} {cs : List Value} (hr : a.rangeAt x o cs) : b.rangeAt x o cs := fun j v hj => (h.cell (p := ⟨x, o + j, none⟩) hx).trans (hr j v hj)
theorem there_keep {B : Nat} {a b : World} (h : Below B a b) {x : Nat} (hx : x < B) {o n : Nat} (ht : a.there x o n) : b.there x o n := fun j hj => by
  obtain ⟨h1, h2⟩ := ht j hj
  have e := h.block x hx
  constructor
  · rw [World.cell?_of_block e]; exact h1
  · simp only [World.frozen?] at h2 ⊢
    rw [e]; exact h2
/-- What lies behind the two boxes of a round and the grown row: p the news' box, q the elder one's. -/
structure Lf (w W2 V : World) (p q : Nat) (n od : Nw) (M : List Nw) (aM : Option Addr) (cM : Nat) : Prop where
  bel : Below (w.heap.size + 1) W2 V
  pn : V.rangeAt p 0 (nC n)
  pt : V.there p 0 5
  qo : V.rangeAt q 0 (nC od)
  pq : w.heap.size < p ∧ p < q ∧ q < V.heap.size
  row : ∃ r, w.heap.size < r ∧ Nr V r (.slice aM M.length cM) M ∧ r ≠ p ∧ r ≠ q
theorem three_len (n : Nw) (L : List Nw) : L.length = (lo n L).length + (eqs n L).length + (Kq.hi n L).length := by
  have h := countP_three (fun _ => true) n L
  simpa using h
theorem mg_next {w : World} {B : Nat} {l news : List Nw} {k : Nat} {L M : List Nw} {ch : Nat} {aL : Option Addr} {cL : Nat} {aM : Option Addr} {cM : Nat} {wr : World} (HG : Mg w B l news k L M ch aL cL aM cM wr) {n : Nw} (hk : ∃ h : k < news.length, news[k] = n) {V : World} {a4 a5 : Option Addr} {c4 c5 ch' : Nat} {M3 : List Nw}
    (hM : M3 = M ++ lo n L ++ fins n) (hch : ch' = ch + if chgd L n then 1 else 0) (hlen : (Kq.hi n L).length ≤ c4 ∧ c4 ≤ 9223372036854775807) (hlist : NewsIn V B (Kq.hi n L) a4) (hrow : ∃ r, w.heap.size < r ∧ Nr V r (.slice a5 M3.length c5) M3) (hz : V.rangeAt w.heap.size 0 (nC zeroN)) (hb : Below w.heap.size w V) (hs : w.heap.size < V.heap.size) :
    Mg w B l news (k + 1) (Kq.hi n L) M3 ch' a4 c4 a5 c5 V := by
  obtain ⟨hk, hnn⟩ := hk
  have hd : news.drop k = n :: news.drop (k + 1) := by rw [List.drop_eq_getElem_cons hk, hnn]
  have ht := HG.tot
  have hn := HG.num
  rw [hd] at ht hn
  have h3 := three_len n L
  have hml := HG.ml
  have hf : (fins n).length ≤ 1 := by unfold fins; cases infP n.dist <;> simp
  refine ⟨hk, rise_filter HG.rl _, fun x hx => HG.sub x (mem_hi.1 hx).1, hlen, ?_, hlist, hrow, ?_, ?_, ?_, hz, hb, hs⟩
  · rw [hM, List.length_append, List.length_append]; omega
  · rw [hM, ← ht]; simp [mrg]
  · rw [hch, ← hn, chg]; omega
  · have := HG.chle; rw [hch]; split <;> omega
theorem lf_zero {w W2 V : World} {p q : Nat} {n od : Nw} {M : List Nw} {aM : Option Addr} {cM : Nat} (h : Lf w W2 V p q n od M aM cM) (hz : W2.rangeAt w.heap.size 0 (nC zeroN)) : V.rangeAt w.heap.size 0 (nC zeroN) := below_keep h.bel (Nat.lt_succ_self _) hz
theorem chgd_gone {L : List Nw} {n od : Nw} (hi' : infP n.dist = true) (h : (hasK L n = true ∧ newsB od = true) ∨ (hasK L n = false ∧ od = zeroN)) : (!(nwE zeroN od)) = chgd L n := by
  unfold chgd
  rw [if_pos hi']
  rcases h with ⟨h, ho⟩ | ⟨h, rfl⟩
  · rw [h]
    have hb := (news_bd ho).1.1
    cases he : nwE zeroN od with
    | false => rfl
    | true => have := nwE_iff.1 he; rw [← this] at hb; exact absurd hb (by decide)
  · rw [h, nwE_refl]; rfl
theorem chgd_new {L : List Nw} {n od : Nw} (hi' : infP n.dist = false) (hn : newsB n = true) (h : (hasK L n = true ∧ eqs n L = [od]) ∨ (hasK L n = false ∧ od = zeroN)) : (!(nwE n od)) = chgd L n := by
  unfold chgd
  rw [hi', if_neg (by decide)]
  congr 1
  apply bool_ext
  rw [hasE_mem, nwE_iff]
  rcases h with ⟨h, ho⟩ | ⟨h, rfl⟩
  · constructor
    · rintro rfl; exact (mem_eqs.1 (by rw [ho]; exact List.mem_cons_self ..)).1
    · intro hm
      have : n ∈ eqs n L := mem_eqs.2 ⟨hm, rfl⟩
      rw [ho] at this
      simpa using this
  · constructor
    · intro e
      have hb := (news_bd hn).1.1
      rw [e] at hb; exact absurd hb (by decide)
    · intro hm
      have := hasK_mem.2 ⟨n, hm, rfl⟩
      rw [h] at this; cases this
/-- One News more; what else lies there stays. -/
theorem nw_appx {w : World} {r : Nat} {a : Option Addr} {c : Nat} {l : List Nw} (n : Nw) (h : Nr w r (.slice a l.length c) l) (hf : (l.length + 1) * 40 ≤ 140737488355328) {B p q : Nat} (hB : B ≤ r) (hB2 : B ≤ w.heap.size) (hp : r ≠ p) (hq : r ≠ q) (W8 : World) (hW8 : W8 = w.alloc (.cells (nC n).toArray 61)) :
    ∃ a' c' W9, (∀ ty, (Builtin.append_ #[29, 29] ty #[.slice a l.length c, .slice (some ⟨w.heap.size, 0, none⟩) 1 1]).run Tryz.prog W8 = .ok (.slice a' (l ++ [n]).length c') W9) ∧ (∃ r', B ≤ r' ∧ Nr W9 r' (.slice a' (l ++ [n]).length c') (l ++ [n])) ∧ Below B w W9 ∧ (p < w.heap.size → W9.heap[p]? = w.heap[p]?) ∧ (q < w.heap.size → W9.heap[q]? = w.heap[q]?) := by
  obtain ⟨r0, h0, h1⟩ := nr_fresh h (w.heap.size + 1)
  have b8 : Below w.heap.size w W8 := by rw [hW8]; exact gAl _ _
  have hs8 : W8.heap.size = w.heap.size + 1 := by rw [hW8]; simp
  have r8 : W8.heap[w.heap.size]? = some (.cells (nC n).toArray 61 (0, 0)) := by rw [hW8]; exact heap_alloc_new w _
  have hm : NwS (fun _ => True) W8 [n] (some ⟨w.heap.size, 0, none⟩) := Or.inr ⟨_, 0, rfl, trivial, (Array.getElem?_eq_some_iff.1 r8).1, fun k hk => by
    have : k = 0 := by simp at hk; omega
    subst this
    refine ⟨?_, ?_, ?_, ?_, ?_⟩ <;> (rw [cell_of_row W8 _ _ _ _ (0, 0) r8]; rfl)⟩
  have hs := hm.src (c := 1)
  obtain ⟨v2, Wn, r2, hrun, hrow, hr2, hxr⟩ := rw_appm (P := Tryz.prog) Tryz.underlying29 nInfo rfl (h0.below b8) hs (by simpa using hf) (by simp; omega) r0
  obtain ⟨a3, c3, rfl⟩ := hrow.slice
  have e1 : (l ++ [n]).length = l.length + 1 := by simp
  refine ⟨a3, c3, Wn, by rw [e1]; exact hrun, ⟨r2, by omega, by show Rw _ _ _ _ _ _ _; rw [e1, nRow_app]; exact hrow⟩, (b8.mono hB2).trans (hxr.below (by omega) (by omega) (by omega)), fun hpl => (hxr.block p (by omega) (by omega) (by omega)).trans (b8.block p hpl), fun hql => (hxr.block q (by omega) (by omega) (by omega)).trans (b8.block q hql)⟩
theorem range_set_other {w : World} {p x o : Nat} {cs vs : List Value} (hne : x ≠ p) (h : w.rangeAt x o cs) (o2 : Nat) : (w.setCells p o2 vs).rangeAt x o cs := fun j v hj => (World.cell?_setCells_out p vs o2 w ⟨x, o + j, none⟩ (fun e _ => absurd e hne)).trans (h j v hj)
theorem there_set_other {w : World} {p x o2 o n : Nat} {vs : List Value} (hne : x ≠ p) (h : w.there x o n) : (w.setCells p o2 vs).there x o n := fun j hj => by
  obtain ⟨h1, h2⟩ := h j hj
  have e := setCells_other p vs o2 w x hne
  constructor
  · rw [World.cell?_of_block e]; exact h1
  · simp only [World.frozen?] at h2 ⊢
    rw [e]; exact h2
theorem nr_set_other {w : World} {r p o2 : Nat} {v : Value} {l : List Nw} {vs : List Value} (h : Nr w r v l) (hne : r ≠ p) : Nr (w.setCells p o2 vs) r v l := h.keep (fun cur _ => setCells_other p vs o2 w r hne)
theorem news_set_other {w : World} {p B o2 : Nat} {l : List Nw} {a : Option Addr} {vs : List Value} (h : NewsIn w B l a) (hp : B ≤ p) : NewsIn (w.setCells p o2 vs) B l a := h.kept (fun i hi => setCells_other p vs o2 w i (by omega)) (Nat.le_refl _)
set_option maxHeartbeats 8000000 in
theorem kMerge_any (l news : List Nw) (a : Option Addr) (c : Nat) (na : Option Addr) (nc : Nat) (w : World) (hl : NewsIn w w.heap.size l a) (hr : Rise l) (hok : ∀ x ∈ l, newsB x = true ∧ x.Fit) (hc : l.length ≤ c ∧ c ≤ 9223372036854775807) (hn : NewsIn w w.heap.size news na) (ho : orderB news = true) (hf : ∀ x ∈ news, x.Fit) :
    Calls Tryz.prog 46 #[.slice a l.length c, .slice na news.length nc] w fun e w' => Below w.heap.size w w' ∧ ∃ a' c' r, w.heap.size ≤ r ∧ e = .returned (.tuple #[.slice a' (mrg l news).length c', .int .i64 (chg l news : Int)]) ∧ Nr w' r (.slice a' (mrg l news).length c') (mrg l news) := by
  have HL := Lib.hid hl
  have HN := Lib.hid hn
  have HO := Lib.hid (order_rise ho)
  have HOK := Lib.hid hok
  have HF := Lib.hid hf
  have hlen := rise_len (order_rise ho).1 (order_rise ho).2
  have hlen2 := rise_len hr (fun x hx => (hok x hx).1)
  have HR := Lib.hid hr
  have HC := Lib.hid hc
  have HLE := Lib.hid (And.intro hlen hlen2)
  clear hl hn ho hok hf hlen hlen2 hr hc
  go_enter Tryz.func46, Tryz.ntmps46
  go_wp2_with fail
  go_loopw [0, 4, 5, 14] (fun lv mv cv iv wr => ∃ (k : Nat) (L M : List Nw) (ch : Nat) (aL : Option Addr) (cL : Nat) (aM : Option Addr) (cM : Nat), lv = .slice aL L.length cL ∧ mv = .slice aM M.length cM ∧ cv = .int .i64 (ch : Int) ∧ iv = .int .i64 (k : Int) ∧ Mg w w.heap.size l news k L M ch aL cL aM cM wr) (fun _ _ _ iv _ => news.length - (RowKit.intOf iv).toNat)
  case atStart =>
    refine ⟨0, l, [], 0, a, c, none, 0, rfl, rfl, rfl, rfl, Nat.zero_le _, HR.out, fun _ h => h, HC.out, by simp, HL.out.kept (fun i hi => (gAl w _).block i hi) (Nat.le_refl _), ⟨w.heap.size + 1, by omega, Or.inl ⟨rfl, rfl, none, rfl⟩⟩, rfl, by simp, Nat.le_refl _, range_box0 w (nC zeroN) 61, gAl _ _, by simp⟩
  case round =>
    obtain ⟨k, L, M, ch, aL, cL, aM, cM, rfl, rfl, rfl, rfl, HG⟩ := hrel
    have HG := Lib.hid HG
    by_cases hlt : k < news.length
    · have hlti : (k : Int) < (news.length : Int) := by omega
      have hk0 : (0 : Int) ≤ (k : Int) := by omega
      have hkw : IntKind.i64.wrap ((k : Int) + 1) = (k : Int) + 1 := by rw [IntKind.wrap_i64]; have := HLE.out; omega
      have hcw : IntKind.i64.wrap ((ch : Int) + 1) = (ch : Int) + 1 := by rw [IntKind.wrap_i64]; have := HLE.out; have := HG.out.chle; omega
      obtain ⟨b, o, rfl, hb, hat⟩ := HN.out.at k hlt
      have hat2 := (hat k hlt).kept (HG.out.bel.block b hb)
      clear hat
      obtain ⟨n, hnn⟩ : ∃ n, news[k] = n := ⟨_, rfl⟩
      rw [hnn] at hat2
      obtain ⟨c0, c1, c2, c3, c4⟩ := hat2
      have hns := n_store
      go_upto_region 5 with (fail)
      obtain ⟨W2, hW2⟩ : ∃ W2, W2 = wr.alloc (nwO n) := ⟨_, rfl⟩
      rw [← hW2]
      obtain ⟨p, hp⟩ : ∃ p, p = wr.heap.size := ⟨_, rfl⟩
      have hw2 : Below wr.heap.size wr W2 ∧ W2.rangeAt p 0 (nC n) ∧ W2.heap.size = p + 1 ∧ W2.there p 0 5 := by rw [hW2, hp]; exact ⟨gAl _ _, range_box0 wr (nC n) 61, by simp, there_box wr (nC n) 61⟩
      clear hW2
      rw [← hp]
      have HWR := Lib.hid (show w.heap.size < p by rw [hp]; exact HG.out.siz)
      have hwb : Below wr.heap.size wr W2 := hw2.1
      have hbs := HG.out.bel.size
      have hnB : newsB n = true := HO.out.2 n (by rw [← hnn]; exact List.getElem_mem _)
      have hnF : n.Fit := HF.out n (by rw [← hnn]; exact List.getElem_mem _)
      have hwd : ∀ x ∈ L, Wd x := fun x hx => (HOK.out x (HG.out.sub x hx)).2.d
      have hlst : NewsIn W2 w.heap.size L aL := HG.out.list.kept (fun i hi => hwb.block i (by omega)) (Nat.le_refl _)
      have hpl := kPlace_any L aL cL n.kind n.dest W2 (hlst.kept (fun _ _ => rfl) (by have := hwb.size; omega)) HG.out.rl hwd hnF.d (by have := HG.out.ml; have := HLE.out; omega)
      obtain ⟨i, hi⟩ : ∃ i, i = (lo (⟨n.dest, n.kind, 0, 0, 0⟩ : Nw) L).length := ⟨_, rfl⟩
      have elo : lo (⟨n.dest, n.kind, 0, 0, 0⟩ : Nw) L = lo n L := rfl
      have ehs : hasK L (⟨n.dest, n.kind, 0, 0, 0⟩ : Nw) = hasK L n := rfl
      rw [elo] at hi hpl
      rw [ehs] at hpl
      have hile : i ≤ L.length := by rw [hi]; exact lo_le n L
      rw [← hi] at hpl
      have htk : L.take i = lo n L := by rw [hi]; exact take_lo n HG.out.rl
      have hdr : L.drop i = eqs n L ++ Kq.hi n L := by rw [hi]; exact drop_lo n HG.out.rl
      have HPL := Lib.hid hpl
      have hil : (i : Int) ≤ (cL : Int) := by have := HG.out.len; omega
      have hil2 : (i : Int) ≤ (L.length : Int) := by omega
      have hi0 : (0 : Int) ≤ (i : Int) := by omega
      have HNN : Hid (∃ h : k < news.length, news[k] = n) := Lib.hid ⟨hlt, hnn⟩
      have HNB := Lib.hid hnB
      have HNF := Lib.hid hnF
      have HLST := Lib.hid hlst
      have HTK := Lib.hid htk
      have HDR := Lib.hid hdr
      have HIL := Lib.hid hile
      have n0 : W2.cell? ⟨p, 0, none⟩ = some (.int .i64 n.dest) := hw2.2.1 0 _ rfl
      have n1 : W2.cell? ⟨p, 1, none⟩ = some (.int .i64 n.kind) := hw2.2.1 1 _ rfl
      have HW2 := Lib.hid hw2.2
      have HZ2 : Hid (W2.rangeAt w.heap.size 0 (nC zeroN)) := Lib.hid (below_keep hwb HG.out.siz HG.out.zero)
      have HBW : Hid (Below w.heap.size w W2) := Lib.hid (HG.out.bel.trans (hwb.mono hbs))
      have HAPP : Hid (∀ W3, Below W2.heap.size W2 W3 → ∃ a' c' W9, (∀ ty, (Builtin.append_ #[29, 29] ty #[.slice aM M.length cM, .slice aL i cL]).run Tryz.prog W3 = .ok (.slice a' (M ++ lo n L).length c') W9) ∧ (∃ r', w.heap.size < r' ∧ Nr W9 r' (.slice a' (M ++ lo n L).length c') (M ++ lo n L) ∧ r' ≠ p) ∧ Below (w.heap.size + 1) W2 W9 ∧ W9.heap[p]? = W2.heap[p]? ∧ p < W9.heap.size) := Lib.hid (by
        intro W3 h3
        obtain ⟨r, hr1, hr2⟩ := HG.out.row
        obtain ⟨r0, hr0, hr3⟩ := nr_fresh hr2 W3.heap.size
        have hs3 := h3.size
        have hrow3 : Nr W3 r0 (.slice aM M.length cM) M := (hr0.below hwb).below h3
        have hsrc : NwS (fun _ => True) W3 (L.take i) aL := by
          have h4 : NewsIn W3 w.heap.size L aL := hlst.kept (fun j hj => h3.block j (by omega)) (Nat.le_refl _)
          rcases h4 with rfl | ⟨b4, o4, e1, e2, e3⟩
          · exact Or.inl (by simp)
          · exact Or.inr ⟨b4, o4, e1, trivial, by omega, fun j hj => by
              rw [List.length_take] at hj
              rw [List.getElem_take]
              exact e3 j (by omega)⟩
        have eli : (L.take i).length = i := by rw [List.length_take]; omega
        have hs := hsrc.src (c := cL)
        rw [eli, htk] at hs
        have hml := HG.out.ml
        have hle := HLE.out
        have eii : i = (lo n L).length := by rw [← htk, eli]
        obtain ⟨v2, Wn, r2, hrun, hrow, hr2', hxr⟩ := rw_appm (P := Tryz.prog) Tryz.underlying29 nInfo rfl hrow3 hs (by omega) (by omega) r0
        obtain ⟨a3, c3, rfl⟩ := hrow.slice
        have e1 : (M ++ lo n L).length = M.length + i := by rw [List.length_append, ← eii]
        have hb2 : Below (w.heap.size + 1) W3 Wn := hxr.below (by omega) (by omega) (by omega)
        refine ⟨a3, c3, Wn, by rw [e1]; exact hrun, ⟨r2, by omega, by show Rw _ _ _ _ _ _ _; rw [e1, nRow_app]; exact hrow, by omega⟩, (h3.mono (by omega)).trans hb2, (hxr.block p (by omega) (by omega) (by omega)).trans (h3.block p (by omega)), by have := hxr.size; omega⟩)
      clear hp hwb hnB hnF hwd hlst hpl hi elo ehs hile htk hdr hnn hlt hw2 hbs
      go_upto_region 6 with (go_at_call 39; refine HPL.out.mono ?_; rintro e W3 ⟨rfl, hb3⟩; have HB3 := Lib.hid hb3; clear hb3)
      obtain ⟨a', c', W9, hrun, hrow9, hb9, hpp, hsz9⟩ := HAPP.out W3 HB3.out
      have HRUN := Lib.hid hrun
      have HROW9 := Lib.hid (And.intro hrow9 (And.intro hb9 (And.intro hpp hsz9)))
      clear hrun hrow9 hb9 hpp hsz9 HAPP HPL n0 n1
      generalize hmm : M ++ lo n L = M2 at *
      have HMM := Lib.hid hmm
      clear hmm
      go_upto_region 7 with (at_builtin; refine Lib.wpList_append_run _ rfl _ _ _ _ rfl _ _ rfl rfl _ _ (HRUN.out _) ?_)
      go_upto_region 8 with (fail)
      -- the rest of the list
      obtain ⟨a3, ha3⟩ : ∃ a3, a3 = (if cL = i then aL else Option.map (fun x => x.add (i * 5)) aL) := ⟨_, rfl⟩
      rw [← ha3]
      have HA3 : Hid (NewsIn W9 w.heap.size (L.drop i) a3) := Lib.hid (by
        have h9 : NewsIn W9 w.heap.size L aL := HLST.out.kept (fun j hj => HROW9.out.2.1.block j (by omega)) (Nat.le_refl _)
        have hcl := HG.out.len
        have hil := HIL.out
        rw [ha3]
        by_cases hci : cL = i
        · rw [if_pos hci]
          exact Or.inl (List.drop_of_length_le (by omega))
        · rw [if_neg hci]
          rcases h9 with h9 | ⟨b4, o4, rfl, e2, e3⟩
          · subst h9; exact Or.inl (by simp)
          · have := news_right (k := i) e3 e2
            have ea : Option.map (fun x : Addr => x.add (i * 5)) (some (⟨b4, o4, none⟩ : Addr)) = some ⟨b4, o4 + i * 5, none⟩ := by simp [Addr.add_lit]
            rw [ea]; exact this)
      clear ha3
      have edl : L.length - i = (L.drop i).length := by rw [List.length_drop]
      rw [edl]
      obtain ⟨q, hq⟩ : ∃ q, q = W9.heap.size := ⟨_, rfl⟩
      have hz9 := below_keep HROW9.out.2.1 (Nat.lt_succ_self _) HZ2.out
      have z0 : W9.cell? ⟨w.heap.size, 0, none⟩ = some (.int .i64 0) := hz9 0 _ rfl
      have z1 : W9.cell? ⟨w.heap.size, 1, none⟩ = some (.int .i64 0) := hz9 1 _ rfl
      have z2 : W9.cell? ⟨w.heap.size, 2, none⟩ = some (.float .f64 0) := hz9 2 _ rfl
      have z3 : W9.cell? ⟨w.heap.size, 3, none⟩ = some (.float .f64 0) := hz9 3 _ rfl
      have z4 : W9.cell? ⟨w.heap.size, 4, none⟩ = some (.int .i64 0) := hz9 4 _ rfl
      clear hz9
      go_upto_region 9 with (fail)
      clear z0 z1 z2 z3 z4
      obtain ⟨W10, hW10⟩ : ∃ W10, W10 = W9.alloc (.cells #[.int .i64 0, .int .i64 0, .float .f64 0, .float .f64 0, .int .i64 0] 61) := ⟨_, rfl⟩
      have HLF : Hid (Lf w W2 W10 p q n zeroN M2 a' c' ∧ W10.there q 0 5 ∧ NewsIn W10 w.heap.size (L.drop i) a3 ∧ ∀ j, j < W9.heap.size → W10.heap[j]? = W9.heap[j]?) := Lib.hid (by
        obtain ⟨⟨r', x1, x2, x3⟩, y1, y2, y3⟩ := HROW9.out
        have b10 : Below W9.heap.size W9 W10 := by rw [hW10]; exact gAl _ _
        have hs10 : W10.heap.size = W9.heap.size + 1 := by rw [hW10]; simp
        have k9 : ∀ o cs, W2.rangeAt p o cs → W9.rangeAt p o cs := fun o cs h j v hj => (World.cell?_of_block (a := ⟨p, o + j, none⟩) y2).trans (h j v hj)
        obtain ⟨r', x2, x4⟩ := nr_fresh x2 (W9.heap.size + 1)
        refine ⟨⟨y1.trans (b10.mono (by have := HWR.out; omega)), below_keep b10 y3 (k9 0 _ HW2.out.1), there_keep b10 y3 (fun j hj => ?_), by rw [hW10, hq]; exact range_box0 _ _ _, ⟨HWR.out, by omega, by omega⟩, ⟨r', by have := HWR.out; omega, x2.below b10, by omega, by omega⟩⟩, by rw [hW10, hq]; exact there_box _ (nC zeroN) _, HA3.out.kept (fun j hj => b10.block j (by have := HWR.out; omega)) (Nat.le_refl _), fun j hj => b10.block j hj⟩
        obtain ⟨h1, h2⟩ := HW2.out.2.2 j hj
        constructor
        · rw [World.cell?_of_block y2]; exact h1
        · simp only [World.frozen?] at h2 ⊢
          rw [y2]; exact h2)
      first | rw [← hq] | skip
      rw [← hW10]
      clear hW10 HA3 HROW9 hq
      have hgt : Tryz.prog.eqGuardType Tryz.prog.depth 61 = false := by kernel_rfl
      have HCL : Hid (L.length ≤ cL ∧ cL ≤ 9223372036854775807) := Lib.hid HG.out.len
      generalize hdd : L.drop i = D at *
      have HD := Lib.hid hdd
      clear hdd edl
      rcases eqs_one (t := n) HG.out.rl with ⟨hk1, od, he1, hm1, hk2⟩ | ⟨hk1, he1⟩
      · -- it is there
        rw [hk1]
        have hD : D = od :: Kq.hi n L := by rw [HDR.out, he1]; rfl
        subst hD
        obtain ⟨bo, oo, rfl, hbo, hao⟩ := HLF.out.2.2.1.at 0 (by simp)
        have hod := hao 0 (by simp)
        simp only [List.getElem_cons_zero, Nat.zero_mul, Nat.add_zero] at hod
        have hl0 : (0 : Int) < ((Kq.hi n L).length : Int) + 1 := by omega
        have hl1 : (1 : Int) ≤ ((Kq.hi n L).length : Int) + 1 := by omega
        have HQ0 := Lib.hid HLF.out.2.1
        have HBQ : Hid (bo ≠ q) := Lib.hid (by have := HLF.out.1.pq; omega)
        have HHI : Hid (NewsIn W10 w.heap.size (Kq.hi n L) (some ⟨bo, oo + 5, none⟩)) := Lib.hid (by
          have := news_right (k := 1) hao hbo
          simpa using this)
        have hso : W10.rangeAt bo oo (nC od) := by
          have h1 := NwS.range (l := [od]) (b := bo) (o := oo) (w := W10) (fun k hk => by
            have : k = 0 := by simp at hk; omega
            subst this
            simpa using hod)
          simpa [nRow] using h1
        have HSO := Lib.hid hso
        clear hod hao hso
        have hcl := HCL.out
        have hil := HIL.out
        have elen : (od :: Kq.hi n L).length = (Kq.hi n L).length + 1 := rfl
        have HLN : Hid ((Kq.hi n L).length ≤ cL - i - 1) := Lib.hid (by have := congrArg List.length HD.out; rw [List.length_drop, elen] at this; omega)
        rw [elen]
        clear hcl hil elen HD
        obtain ⟨cR, hcR⟩ : ∃ cR, cR = cL - i := ⟨_, rfl⟩
        rw [← hcR] at HLN ⊢
        have HCR : Hid (cR ≤ cL) := Lib.hid (by omega)
        clear hcR
        go_upto_region 10 with (fail)
        refine wp_region_held_drew (S := fun V => V.rangeAt bo oo (nC od)) (by kernel_rfl) ((World.rangeAt_drew _ _ _ _).2 HSO.out) (fun hH => ?_)
        clear hH
        have hs0 := (World.rangeAt_drew _ _ _ _).2 HSO.out
        refine tk 0 (by assumption) rfl (by kernel_rfl) (fun _ _ _ h => h) (fun V hV => by go_simp; try with_reducible rfl) ?_
        try simp only [Act.put, sqA, sqB, sqC, sqD, sqE, sqF]
        refine tk 1 (by assumption) rfl (by kernel_rfl) (fun _ _ _ h => h) (fun V hV => by go_simp; try with_reducible rfl) ?_
        try simp only [Act.put, sqA, sqB, sqC, sqD, sqE, sqF]
        refine tk 2 (by assumption) rfl (by kernel_rfl) (fun _ _ _ h => h) (tk_load (S := fun V => V.rangeAt bo oo (nC od)) 61 (.tmp 38) rfl bo oo rfl (nC od) _ (fun V hV => hV) Tryz.underlying61 (by rfl) (by kernel_rfl)) ?_
        try simp only [Act.put, sqA, sqB, sqC, sqD, sqE, sqF]
        refine tk 3 (by assumption) rfl (by kernel_rfl) (fun _ _ _ h => h) (fun V hV => by go_simp; try with_reducible rfl) ?_
        try simp only [Act.put, sqA, sqB, sqC, sqD, sqE, sqF]
        refine tk 4 (by assumption) rfl (by kernel_rfl) (fun _ _ _ h => h) (fun V hV => by go_simp; try with_reducible rfl) ?_
        try simp only [Act.put, sqA, sqB, sqC, sqD, sqE, sqF]
        refine wpAnyH_ready (rs := [5]) (by kernel_rfl) (by simp) ?_
        refine AllReadyH.cons (o := _) rfl (fun K hK => ?_) AllReadyH.nil
        rw [if_pos (by rfl)]
        refine wp_store_mid 61 (.tmp 11) (.tmp 39) rfl q 0 (nC od).toArray rfl rfl HQ0.out (by kernel_rfl) (all_oneCell_toArray (nC_one od)) ?_
        refine hK.out _ _ (fun j v hj => (World.cell?_setCells_out q _ 0 _ ⟨bo, oo + j, none⟩ (fun e _ => absurd e HBQ.out)).trans (hs0 j v hj)) (fun hH2 => ?_)
        clear hK K
        try simp only [Act.put, sqA, sqB, sqC, sqD, sqE, sqF]
        refine tk 6 (by assumption) rfl (by kernel_rfl) (fun _ _ _ h => h) (fun V hV => by go_simp; try with_reducible rfl) ?_
        try simp only [Act.put, sqA, sqB, sqC, sqD, sqE, sqF]
        refine wpAnyH_done (by kernel_rfl) ?_ _
        obtain ⟨a4, ha4⟩ : ∃ a4, a4 = (if cR = 1 then (some ⟨bo, oo, none⟩ : Option Addr) else some ⟨bo, oo + 5, none⟩) := ⟨_, rfl⟩
        try rw [← ha4]
        obtain ⟨c4, hc4⟩ : ∃ c4, c4 = cR - 1 := ⟨_, rfl⟩
        rw [← hc4]
        obtain ⟨V, hV⟩ : ∃ V, V = W10.drew.setCells q 0 (nC od) := ⟨_, rfl⟩
        rw [← hV]
        have HV : Hid (Lf w W2 V p q n od M2 a' c') := Lib.hid (by
          obtain ⟨r, x1, x2, x3, x4⟩ := HLF.out.1.row
          have hpq := HLF.out.1.pq
          have hd := HLF.out.1.bel.drew
          rw [hV]
          exact ⟨below_set q (by omega) _ 0 _ hd, range_set_other (by omega) ((World.rangeAt_drew _ _ _ _).2 HLF.out.1.pn) 0, there_set_other (by omega) HLF.out.1.pt, World.rangeAt_setCells_same _ q 0 (nC od) HQ0.out, ⟨hpq.1, hpq.2.1, by rw [setCells_size]; exact hpq.2.2⟩, ⟨r, x1, nr_set_other (w := W10.drew) x2 x4, x3, x4⟩⟩)
        have HL4 : Hid (NewsIn V w.heap.size (Kq.hi n L) a4) := Lib.hid (by
          have hpq := HLF.out.1.pq
          rw [hV, ha4]
          refine news_set_other (w := W10.drew) ?_ (by omega)
          by_cases h1 : cR = 1
          · have := HLN.out; exact Or.inl (List.length_eq_zero_iff.1 (by omega))
          · rw [if_neg h1]; exact HHI.out.kept (fun _ _ => rfl) (Nat.le_refl _))
        have HC4 : Hid ((Kq.hi n L).length ≤ c4 ∧ c4 ≤ 9223372036854775807) := Lib.hid (by rw [hc4]; have h1 := HLN.out; have h2 := HCL.out; have h3 := HCR.out; omega)
        have hob := HOK.out od (HG.out.sub od hm1)
        have HOD := Lib.hid (cmp_news hob.1 hob.2)
        have HH : Hid ((hasK L n = true ∧ newsB od = true) ∨ (hasK L n = false ∧ od = zeroN)) := Lib.hid (Or.inl ⟨hk1, hob.1⟩)
        have HH2 : Hid ((hasK L n = true ∧ eqs n L = [od]) ∨ (hasK L n = false ∧ od = zeroN)) := Lib.hid (Or.inl ⟨hk1, he1⟩)
        clear hV ha4 hc4 hs0 hob hk1 he1 hm1 hk2 hl0 hl1 HLN HHI HSO HBQ HQ0 HLF
        have p0 : V.cell? ⟨p, 0, none⟩ = some (.int .i64 n.dest) := HV.out.pn 0 _ rfl
        have p1 : V.cell? ⟨p, 1, none⟩ = some (.int .i64 n.kind) := HV.out.pn 1 _ rfl
        have p2 : V.cell? ⟨p, 2, none⟩ = some (.float .f64 n.dist) := HV.out.pn 2 _ rfl
        have p3 : V.cell? ⟨p, 3, none⟩ = some (.float .f64 n.radius) := HV.out.pn 3 _ rfl
        have p4 : V.cell? ⟨p, 4, none⟩ = some (.int .i64 n.home) := HV.out.pn 4 _ rfl
        have HGN := Lib.hid (kGone_any n V)
        have HPQ := Lib.hid HV.out.pq
        cases hg : infP n.dist with
        | true =>
          rw [hg] at HGN
          have HCH := Lib.hid (chgd_gone hg HH.out)
          have hfin : fins n = [] := by unfold fins; rw [hg]; rfl
          have HFIN := Lib.hid hfin
          clear hfin hg
          go_upto_region 12 with (go_at_call 62; refine HGN.out.mono ?_; rintro e V2 ⟨rfl, hV2⟩; have HB2 := Lib.hid (show Below V.heap.size V V2 by rw [hV2]; exact gAl _ _); clear hV2)
          clear p0 p1 p2 p3 p4
          have z0 : V2.cell? ⟨w.heap.size, 0, none⟩ = some (.int .i64 0) := (below_keep HB2.out (by have := HPQ.out; omega) (lf_zero HV.out HZ2.out)) 0 _ rfl
          have z1 : V2.cell? ⟨w.heap.size, 1, none⟩ = some (.int .i64 0) := (below_keep HB2.out (by have := HPQ.out; omega) (lf_zero HV.out HZ2.out)) 1 _ rfl
          have z2 : V2.cell? ⟨w.heap.size, 2, none⟩ = some (.float .f64 0) := (below_keep HB2.out (by have := HPQ.out; omega) (lf_zero HV.out HZ2.out)) 2 _ rfl
          have z3 : V2.cell? ⟨w.heap.size, 3, none⟩ = some (.float .f64 0) := (below_keep HB2.out (by have := HPQ.out; omega) (lf_zero HV.out HZ2.out)) 3 _ rfl
          have z4 : V2.cell? ⟨w.heap.size, 4, none⟩ = some (.int .i64 0) := (below_keep HB2.out (by have := HPQ.out; omega) (lf_zero HV.out HZ2.out)) 4 _ rfl
          have HT2 : Hid (V2.there p 0 5) := Lib.hid (there_keep HB2.out (by have := HPQ.out; omega) HV.out.pt)
          go_upto_region 14 with (refine wpList_store_mid (by rfl) 61 (.tmp 8) (.tmp 44) rfl p 0 (nC zeroN).toArray rfl rfl HT2.out (by kernel_rfl) (all_oneCell_toArray (nC_one zeroN)) ?_)
          obtain ⟨V3, hV3⟩ : ∃ V3, V3 = V2.setCells p 0 (nC zeroN).toArray.toList := ⟨_, rfl⟩
          rw [← hV3]
          have HP3 : Hid (V3.rangeAt p 0 (nC zeroN) ∧ V3.rangeAt q 0 (nC od)) := Lib.hid (by rw [hV3]; exact ⟨World.rangeAt_setCells_same V2 p 0 (nC zeroN) HT2.out, range_set_other (by have := HPQ.out; omega) (below_keep HB2.out HPQ.out.2.2 HV.out.qo) 0⟩)
          have HMGN : Hid (∀ ch', ch' = ch + (if chgd L n then 1 else 0) → Mg w w.heap.size l news (k + 1) (Kq.hi n L) M2 ch' a4 c4 a' c' V3) := Lib.hid (fun ch' hch => by
            obtain ⟨r, x1, x2, x3, x4⟩ := HV.out.row
            have hpq := HPQ.out
            have hs2 := HB2.out.size
            refine mg_next HG.out HNN.out (by rw [HFIN.out, List.append_nil, HMM.out]) hch HC4.out ?_ ?_ ?_ ?_ ?_
            · rw [hV3]; exact news_set_other (HL4.out.kept (fun i hi => HB2.out.block i (by omega)) (Nat.le_refl _)) (by omega)
            · rw [hV3]; exact ⟨r, x1, nr_set_other (x2.below HB2.out) x3⟩
            · rw [hV3]; exact range_set_other (by omega) (below_keep HB2.out (by omega) (lf_zero HV.out HZ2.out)) 0
            · rw [hV3]; exact below_set p (by omega) _ 0 _ (HBW.out.trans ((HV.out.bel.mono (Nat.le_succ _)).trans (HB2.out.mono (by omega))))
            · rw [hV3, setCells_size]; omega)
          clear hV3 z0 z1 z2 z3 z4 HGN
          have p0 : V3.cell? ⟨p, 0, none⟩ = some (.int .i64 0) := (HP3.out.1) 0 _ rfl
          have p1 : V3.cell? ⟨p, 1, none⟩ = some (.int .i64 0) := (HP3.out.1) 1 _ rfl
          have p2 : V3.cell? ⟨p, 2, none⟩ = some (.float .f64 0) := (HP3.out.1) 2 _ rfl
          have p3 : V3.cell? ⟨p, 3, none⟩ = some (.float .f64 0) := (HP3.out.1) 3 _ rfl
          have p4 : V3.cell? ⟨p, 4, none⟩ = some (.int .i64 0) := (HP3.out.1) 4 _ rfl
          have o0 : V3.cell? ⟨q, 0, none⟩ = some (.int .i64 od.dest) := (HP3.out.2) 0 _ rfl
          have o1 : V3.cell? ⟨q, 1, none⟩ = some (.int .i64 od.kind) := (HP3.out.2) 1 _ rfl
          have o2 : V3.cell? ⟨q, 2, none⟩ = some (.float .f64 od.dist) := (HP3.out.2) 2 _ rfl
          have o3 : V3.cell? ⟨q, 3, none⟩ = some (.float .f64 od.radius) := (HP3.out.2) 3 _ rfl
          have o4 : V3.cell? ⟨q, 4, none⟩ = some (.int .i64 od.home) := (HP3.out.2) 4 _ rfl
          have hcmp : ∀ W, (binOp .neq 61 (.agg #[.int .i64 0, .int .i64 0, .float .f64 0, .float .f64 0, .int .i64 0]) (.agg #[.int .i64 od.dest, .int .i64 od.kind, .float .f64 od.dist, .float .f64 od.radius, .int .i64 od.home])).run Tryz.prog W = .ok (.bool (chgd L n)) W := fun W => by rw [← HCH.out]; exact cmp_run cmp_zero HOD.out W
          cases hcb : chgd L n with
          | false =>
            rw [hcb] at hcmp
            have HNX := Lib.hid (HMGN.out ch (by rw [hcb]; rfl))
            clear hcb
            go_wp2_with fail
            exact ⟨⟨k + 1, Kq.hi n L, M2, ch, a4, c4, a', c', rfl, rfl, rfl, congrArg (Value.int .i64) (by omega), HNX.out⟩, by show news.length - ((k : Int) + 1).toNat < news.length - (k : Int).toNat; have := HNN.out.1; omega⟩
          | true =>
            rw [hcb] at hcmp
            have HNX := Lib.hid (HMGN.out (ch + 1) (by rw [hcb]; rfl))
            clear hcb
            go_wp2_with fail
            exact ⟨⟨k + 1, Kq.hi n L, M2, (ch + 1), a4, c4, a', c', rfl, rfl, congrArg (Value.int .i64) (by omega), congrArg (Value.int .i64) (by omega), HNX.out⟩, by show news.length - ((k : Int) + 1).toNat < news.length - (k : Int).toNat; have := HNN.out.1; omega⟩
        | false =>
          rw [hg] at HGN
          have HCH := Lib.hid (chgd_new hg HNB.out HH2.out)
          have hfin : fins n = [n] := by unfold fins; rw [hg]; rfl
          have HFIN := Lib.hid hfin
          clear hfin hg
          go_upto_region 13 with (go_at_call 62; refine HGN.out.mono ?_; rintro e V2 ⟨rfl, hV2⟩; have HB2 := Lib.hid (show Below V.heap.size V V2 by rw [hV2]; exact gAl _ _); clear hV2)
          clear p0 p1 p2 p3 p4
          have p0 : V2.cell? ⟨p, 0, none⟩ = some (.int .i64 n.dest) := (below_keep HB2.out (by have := HPQ.out; omega) HV.out.pn) 0 _ rfl
          have p1 : V2.cell? ⟨p, 1, none⟩ = some (.int .i64 n.kind) := (below_keep HB2.out (by have := HPQ.out; omega) HV.out.pn) 1 _ rfl
          have p2 : V2.cell? ⟨p, 2, none⟩ = some (.float .f64 n.dist) := (below_keep HB2.out (by have := HPQ.out; omega) HV.out.pn) 2 _ rfl
          have p3 : V2.cell? ⟨p, 3, none⟩ = some (.float .f64 n.radius) := (below_keep HB2.out (by have := HPQ.out; omega) HV.out.pn) 3 _ rfl
          have p4 : V2.cell? ⟨p, 4, none⟩ = some (.int .i64 n.home) := (below_keep HB2.out (by have := HPQ.out; omega) HV.out.pn) 4 _ rfl
          obtain ⟨W8, hW8⟩ : ∃ W8, W8 = V2.alloc (.cells #[.int .i64 n.dest, .int .i64 n.kind, .float .f64 n.dist, .float .f64 n.radius, .int .i64 n.home] 61) := ⟨_, rfl⟩
          obtain ⟨r, x1, x2, x3, x4⟩ := HV.out.row
          have hbd : (M2.length + 1) * 40 ≤ 140737488355328 := by have h1 := HG.out.ml; have h2 := HLE.out; have h3 := HMM.out; have h4 := three_len n L; rw [← h3, List.length_append]; have := HNN.out.1; omega
          have hpq := HPQ.out
          have hs2 := HB2.out.size
          obtain ⟨a5, c5, V3, hrun2, hrow2, hb3, hp3, hq3⟩ := nw_appx (B := w.heap.size + 1) (p := p) (q := q) n (x2.below HB2.out) hbd (by omega) (by omega) x3 x4 W8 hW8
          rw [hW8] at hrun2
          have HRUN2 := Lib.hid hrun2
          have HP3 : Hid (V3.rangeAt p 0 (nC n) ∧ V3.rangeAt q 0 (nC od)) := Lib.hid ⟨fun j v hj => (World.cell?_of_block (a := ⟨p, 0 + j, none⟩) (hp3 (by omega))).trans (below_keep HB2.out (by omega) HV.out.pn j v hj), fun j v hj => (World.cell?_of_block (a := ⟨q, 0 + j, none⟩) (hq3 (by omega))).trans (below_keep HB2.out hpq.2.2 HV.out.qo j v hj)⟩
          have HMGN : Hid (∀ ch', ch' = ch + (if chgd L n then 1 else 0) → Mg w w.heap.size l news (k + 1) (Kq.hi n L) (M2 ++ [n]) ch' a4 c4 a5 c5 V3) := Lib.hid (fun ch' hch => by
            obtain ⟨r9, y1, y2⟩ := hrow2
            refine mg_next HG.out HNN.out (by rw [HFIN.out, HMM.out]) hch HC4.out ?_ ⟨r9, by omega, y2⟩ ?_ ?_ ?_
            · exact (HL4.out.kept (fun i hi => HB2.out.block i (by omega)) (Nat.le_refl _)).kept (fun i hi => hb3.block i (by omega)) (Nat.le_refl _)
            · exact below_keep hb3 (Nat.lt_succ_self _) (below_keep HB2.out (by omega) (lf_zero HV.out HZ2.out))
            · exact HBW.out.trans ((HV.out.bel.mono (Nat.le_succ _)).trans ((HB2.out.mono (by omega)).trans (hb3.mono (Nat.le_succ _))))
            · have := hb3.size; omega)
          clear hrun2 hrow2 hb3 hp3 hq3 hW8 x1 x2 x3 x4 hbd hpq hs2 HGN
          generalize hm3 : M2 ++ [n] = M3 at *
          clear hm3
          go_upto_region 14 with (at_builtin; refine Lib.wpList_append_run _ rfl _ _ _ _ rfl _ _ rfl rfl _ _ (HRUN2.out _) ?_)
          clear p0 p1 p2 p3 p4
          have p0 : V3.cell? ⟨p, 0, none⟩ = some (.int .i64 n.dest) := (HP3.out.1) 0 _ rfl
          have p1 : V3.cell? ⟨p, 1, none⟩ = some (.int .i64 n.kind) := (HP3.out.1) 1 _ rfl
          have p2 : V3.cell? ⟨p, 2, none⟩ = some (.float .f64 n.dist) := (HP3.out.1) 2 _ rfl
          have p3 : V3.cell? ⟨p, 3, none⟩ = some (.float .f64 n.radius) := (HP3.out.1) 3 _ rfl
          have p4 : V3.cell? ⟨p, 4, none⟩ = some (.int .i64 n.home) := (HP3.out.1) 4 _ rfl
          have o0 : V3.cell? ⟨q, 0, none⟩ = some (.int .i64 od.dest) := (HP3.out.2) 0 _ rfl
          have o1 : V3.cell? ⟨q, 1, none⟩ = some (.int .i64 od.kind) := (HP3.out.2) 1 _ rfl
          have o2 : V3.cell? ⟨q, 2, none⟩ = some (.float .f64 od.dist) := (HP3.out.2) 2 _ rfl
          have o3 : V3.cell? ⟨q, 3, none⟩ = some (.float .f64 od.radius) := (HP3.out.2) 3 _ rfl
          have o4 : V3.cell? ⟨q, 4, none⟩ = some (.int .i64 od.home) := (HP3.out.2) 4 _ rfl
          have hcmp : ∀ W, (binOp .neq 61 (.agg #[.int .i64 n.dest, .int .i64 n.kind, .float .f64 n.dist, .float .f64 n.radius, .int .i64 n.home]) (.agg #[.int .i64 od.dest, .int .i64 od.kind, .float .f64 od.dist, .float .f64 od.radius, .int .i64 od.home])).run Tryz.prog W = .ok (.bool (chgd L n)) W := fun W => by rw [← HCH.out]; exact cmp_run (cmp_news HNB.out HNF.out) HOD.out W
          cases hcb : chgd L n with
          | false =>
            rw [hcb] at hcmp
            have HNX := Lib.hid (HMGN.out ch (by rw [hcb]; rfl))
            clear hcb
            go_wp2_with fail
            exact ⟨⟨k + 1, Kq.hi n L, M3, ch, a4, c4, a5, c5, rfl, rfl, rfl, congrArg (Value.int .i64) (by omega), HNX.out⟩, by show news.length - ((k : Int) + 1).toNat < news.length - (k : Int).toNat; have := HNN.out.1; omega⟩
          | true =>
            rw [hcb] at hcmp
            have HNX := Lib.hid (HMGN.out (ch + 1) (by rw [hcb]; rfl))
            clear hcb
            go_wp2_with fail
            exact ⟨⟨k + 1, Kq.hi n L, M3, (ch + 1), a4, c4, a5, c5, rfl, rfl, congrArg (Value.int .i64) (by omega), congrArg (Value.int .i64) (by omega), HNX.out⟩, by show news.length - ((k : Int) + 1).toNat < news.length - (k : Int).toNat; have := HNN.out.1; omega⟩
      · -- it is not there
        rw [hk1]
        have hD : D = Kq.hi n L := by rw [HDR.out, he1]; rfl
        subst hD
        obtain ⟨c4, hc4⟩ : ∃ c4, c4 = cL - i := ⟨_, rfl⟩
        obtain ⟨V, hV⟩ : ∃ V, V = W10 := ⟨_, rfl⟩
        subst hV
        obtain ⟨a4, ha4⟩ : ∃ a4, a4 = a3 := ⟨_, rfl⟩
        subst ha4
        rw [← hc4]
        have HL4 := Lib.hid HLF.out.2.2.1
        have HC4 : Hid ((Kq.hi n L).length ≤ c4 ∧ c4 ≤ 9223372036854775807) := Lib.hid (by
          have h1 := HCL.out
          have h2 := congrArg List.length HD.out
          have h3 := HIL.out
          rw [List.length_drop] at h2
          rw [hc4]; omega)
        have hv := HLF.out.1
        obtain ⟨od, hod⟩ : ∃ od, od = zeroN := ⟨_, rfl⟩
        have HOD : Hid (Cmp od) := Lib.hid (by rw [hod]; exact cmp_zero)
        rw [← hod] at hv
        have HV := Lib.hid hv
        have HH : Hid ((hasK L n = true ∧ newsB od = true) ∨ (hasK L n = false ∧ od = zeroN)) := Lib.hid (Or.inr ⟨hk1, hod⟩)
        have HH2 : Hid ((hasK L n = true ∧ eqs n L = [od]) ∨ (hasK L n = false ∧ od = zeroN)) := Lib.hid (Or.inr ⟨hk1, hod⟩)
        clear hv hod hc4 hk1 he1 HLF HD
        have p0 : V.cell? ⟨p, 0, none⟩ = some (.int .i64 n.dest) := HV.out.pn 0 _ rfl
        have p1 : V.cell? ⟨p, 1, none⟩ = some (.int .i64 n.kind) := HV.out.pn 1 _ rfl
        have p2 : V.cell? ⟨p, 2, none⟩ = some (.float .f64 n.dist) := HV.out.pn 2 _ rfl
        have p3 : V.cell? ⟨p, 3, none⟩ = some (.float .f64 n.radius) := HV.out.pn 3 _ rfl
        have p4 : V.cell? ⟨p, 4, none⟩ = some (.int .i64 n.home) := HV.out.pn 4 _ rfl
        have HGN := Lib.hid (kGone_any n V)
        have HPQ := Lib.hid HV.out.pq
        cases hg : infP n.dist with
        | true =>
          rw [hg] at HGN
          have HCH := Lib.hid (chgd_gone hg HH.out)
          have hfin : fins n = [] := by unfold fins; rw [hg]; rfl
          have HFIN := Lib.hid hfin
          clear hfin hg
          go_upto_region 12 with (go_at_call 62; refine HGN.out.mono ?_; rintro e V2 ⟨rfl, hV2⟩; have HB2 := Lib.hid (show Below V.heap.size V V2 by rw [hV2]; exact gAl _ _); clear hV2)
          clear p0 p1 p2 p3 p4
          have z0 : V2.cell? ⟨w.heap.size, 0, none⟩ = some (.int .i64 0) := (below_keep HB2.out (by have := HPQ.out; omega) (lf_zero HV.out HZ2.out)) 0 _ rfl
          have z1 : V2.cell? ⟨w.heap.size, 1, none⟩ = some (.int .i64 0) := (below_keep HB2.out (by have := HPQ.out; omega) (lf_zero HV.out HZ2.out)) 1 _ rfl
          have z2 : V2.cell? ⟨w.heap.size, 2, none⟩ = some (.float .f64 0) := (below_keep HB2.out (by have := HPQ.out; omega) (lf_zero HV.out HZ2.out)) 2 _ rfl
          have z3 : V2.cell? ⟨w.heap.size, 3, none⟩ = some (.float .f64 0) := (below_keep HB2.out (by have := HPQ.out; omega) (lf_zero HV.out HZ2.out)) 3 _ rfl
          have z4 : V2.cell? ⟨w.heap.size, 4, none⟩ = some (.int .i64 0) := (below_keep HB2.out (by have := HPQ.out; omega) (lf_zero HV.out HZ2.out)) 4 _ rfl
          have HT2 : Hid (V2.there p 0 5) := Lib.hid (there_keep HB2.out (by have := HPQ.out; omega) HV.out.pt)
          go_upto_region 14 with (refine wpList_store_mid (by rfl) 61 (.tmp 8) (.tmp 44) rfl p 0 (nC zeroN).toArray rfl rfl HT2.out (by kernel_rfl) (all_oneCell_toArray (nC_one zeroN)) ?_)
          obtain ⟨V3, hV3⟩ : ∃ V3, V3 = V2.setCells p 0 (nC zeroN).toArray.toList := ⟨_, rfl⟩
          rw [← hV3]
          have HP3 : Hid (V3.rangeAt p 0 (nC zeroN) ∧ V3.rangeAt q 0 (nC od)) := Lib.hid (by rw [hV3]; exact ⟨World.rangeAt_setCells_same V2 p 0 (nC zeroN) HT2.out, range_set_other (by have := HPQ.out; omega) (below_keep HB2.out HPQ.out.2.2 HV.out.qo) 0⟩)
          have HMGN : Hid (∀ ch', ch' = ch + (if chgd L n then 1 else 0) → Mg w w.heap.size l news (k + 1) (Kq.hi n L) M2 ch' a4 c4 a' c' V3) := Lib.hid (fun ch' hch => by
            obtain ⟨r, x1, x2, x3, x4⟩ := HV.out.row
            have hpq := HPQ.out
            have hs2 := HB2.out.size
            refine mg_next HG.out HNN.out (by rw [HFIN.out, List.append_nil, HMM.out]) hch HC4.out ?_ ?_ ?_ ?_ ?_
            · rw [hV3]; exact news_set_other (HL4.out.kept (fun i hi => HB2.out.block i (by omega)) (Nat.le_refl _)) (by omega)
            · rw [hV3]; exact ⟨r, x1, nr_set_other (x2.below HB2.out) x3⟩
            · rw [hV3]; exact range_set_other (by omega) (below_keep HB2.out (by omega) (lf_zero HV.out HZ2.out)) 0
            · rw [hV3]; exact below_set p (by omega) _ 0 _ (HBW.out.trans ((HV.out.bel.mono (Nat.le_succ _)).trans (HB2.out.mono (by omega))))
            · rw [hV3, setCells_size]; omega)
          clear hV3 z0 z1 z2 z3 z4 HGN
          have p0 : V3.cell? ⟨p, 0, none⟩ = some (.int .i64 0) := (HP3.out.1) 0 _ rfl
          have p1 : V3.cell? ⟨p, 1, none⟩ = some (.int .i64 0) := (HP3.out.1) 1 _ rfl
          have p2 : V3.cell? ⟨p, 2, none⟩ = some (.float .f64 0) := (HP3.out.1) 2 _ rfl
          have p3 : V3.cell? ⟨p, 3, none⟩ = some (.float .f64 0) := (HP3.out.1) 3 _ rfl
          have p4 : V3.cell? ⟨p, 4, none⟩ = some (.int .i64 0) := (HP3.out.1) 4 _ rfl
          have o0 : V3.cell? ⟨q, 0, none⟩ = some (.int .i64 od.dest) := (HP3.out.2) 0 _ rfl
          have o1 : V3.cell? ⟨q, 1, none⟩ = some (.int .i64 od.kind) := (HP3.out.2) 1 _ rfl
          have o2 : V3.cell? ⟨q, 2, none⟩ = some (.float .f64 od.dist) := (HP3.out.2) 2 _ rfl
          have o3 : V3.cell? ⟨q, 3, none⟩ = some (.float .f64 od.radius) := (HP3.out.2) 3 _ rfl
          have o4 : V3.cell? ⟨q, 4, none⟩ = some (.int .i64 od.home) := (HP3.out.2) 4 _ rfl
          have hcmp : ∀ W, (binOp .neq 61 (.agg #[.int .i64 0, .int .i64 0, .float .f64 0, .float .f64 0, .int .i64 0]) (.agg #[.int .i64 od.dest, .int .i64 od.kind, .float .f64 od.dist, .float .f64 od.radius, .int .i64 od.home])).run Tryz.prog W = .ok (.bool (chgd L n)) W := fun W => by rw [← HCH.out]; exact cmp_run cmp_zero HOD.out W
          cases hcb : chgd L n with
          | false =>
            rw [hcb] at hcmp
            have HNX := Lib.hid (HMGN.out ch (by rw [hcb]; rfl))
            clear hcb
            go_wp2_with fail
            exact ⟨⟨k + 1, Kq.hi n L, M2, ch, a4, c4, a', c', rfl, rfl, rfl, congrArg (Value.int .i64) (by omega), HNX.out⟩, by show news.length - ((k : Int) + 1).toNat < news.length - (k : Int).toNat; have := HNN.out.1; omega⟩
          | true =>
            rw [hcb] at hcmp
            have HNX := Lib.hid (HMGN.out (ch + 1) (by rw [hcb]; rfl))
            clear hcb
            go_wp2_with fail
            exact ⟨⟨k + 1, Kq.hi n L, M2, (ch + 1), a4, c4, a', c', rfl, rfl, congrArg (Value.int .i64) (by omega), congrArg (Value.int .i64) (by omega), HNX.out⟩, by show news.length - ((k : Int) + 1).toNat < news.length - (k : Int).toNat; have := HNN.out.1; omega⟩
        | false =>
          rw [hg] at HGN
          have HCH := Lib.hid (chgd_new hg HNB.out HH2.out)
          have hfin : fins n = [n] := by unfold fins; rw [hg]; rfl
          have HFIN := Lib.hid hfin
          clear hfin hg
          go_upto_region 13 with (go_at_call 62; refine HGN.out.mono ?_; rintro e V2 ⟨rfl, hV2⟩; have HB2 := Lib.hid (show Below V.heap.size V V2 by rw [hV2]; exact gAl _ _); clear hV2)
          clear p0 p1 p2 p3 p4
          have p0 : V2.cell? ⟨p, 0, none⟩ = some (.int .i64 n.dest) := (below_keep HB2.out (by have := HPQ.out; omega) HV.out.pn) 0 _ rfl
          have p1 : V2.cell? ⟨p, 1, none⟩ = some (.int .i64 n.kind) := (below_keep HB2.out (by have := HPQ.out; omega) HV.out.pn) 1 _ rfl
          have p2 : V2.cell? ⟨p, 2, none⟩ = some (.float .f64 n.dist) := (below_keep HB2.out (by have := HPQ.out; omega) HV.out.pn) 2 _ rfl
          have p3 : V2.cell? ⟨p, 3, none⟩ = some (.float .f64 n.radius) := (below_keep HB2.out (by have := HPQ.out; omega) HV.out.pn) 3 _ rfl
          have p4 : V2.cell? ⟨p, 4, none⟩ = some (.int .i64 n.home) := (below_keep HB2.out (by have := HPQ.out; omega) HV.out.pn) 4 _ rfl
          obtain ⟨W8, hW8⟩ : ∃ W8, W8 = V2.alloc (.cells #[.int .i64 n.dest, .int .i64 n.kind, .float .f64 n.dist, .float .f64 n.radius, .int .i64 n.home] 61) := ⟨_, rfl⟩
          obtain ⟨r, x1, x2, x3, x4⟩ := HV.out.row
          have hbd : (M2.length + 1) * 40 ≤ 140737488355328 := by have h1 := HG.out.ml; have h2 := HLE.out; have h3 := HMM.out; have h4 := three_len n L; rw [← h3, List.length_append]; have := HNN.out.1; omega
          have hpq := HPQ.out
          have hs2 := HB2.out.size
          obtain ⟨a5, c5, V3, hrun2, hrow2, hb3, hp3, hq3⟩ := nw_appx (B := w.heap.size + 1) (p := p) (q := q) n (x2.below HB2.out) hbd (by omega) (by omega) x3 x4 W8 hW8
          rw [hW8] at hrun2
          have HRUN2 := Lib.hid hrun2
          have HP3 : Hid (V3.rangeAt p 0 (nC n) ∧ V3.rangeAt q 0 (nC od)) := Lib.hid ⟨fun j v hj => (World.cell?_of_block (a := ⟨p, 0 + j, none⟩) (hp3 (by omega))).trans (below_keep HB2.out (by omega) HV.out.pn j v hj), fun j v hj => (World.cell?_of_block (a := ⟨q, 0 + j, none⟩) (hq3 (by omega))).trans (below_keep HB2.out hpq.2.2 HV.out.qo j v hj)⟩
          have HMGN : Hid (∀ ch', ch' = ch + (if chgd L n then 1 else 0) → Mg w w.heap.size l news (k + 1) (Kq.hi n L) (M2 ++ [n]) ch' a4 c4 a5 c5 V3) := Lib.hid (fun ch' hch => by
            obtain ⟨r9, y1, y2⟩ := hrow2
            refine mg_next HG.out HNN.out (by rw [HFIN.out, HMM.out]) hch HC4.out ?_ ⟨r9, by omega, y2⟩ ?_ ?_ ?_
            · exact (HL4.out.kept (fun i hi => HB2.out.block i (by omega)) (Nat.le_refl _)).kept (fun i hi => hb3.block i (by omega)) (Nat.le_refl _)
            · exact below_keep hb3 (Nat.lt_succ_self _) (below_keep HB2.out (by omega) (lf_zero HV.out HZ2.out))
            · exact HBW.out.trans ((HV.out.bel.mono (Nat.le_succ _)).trans ((HB2.out.mono (by omega)).trans (hb3.mono (Nat.le_succ _))))
            · have := hb3.size; omega)
          clear hrun2 hrow2 hb3 hp3 hq3 hW8 x1 x2 x3 x4 hbd hpq hs2 HGN
          generalize hm3 : M2 ++ [n] = M3 at *
          clear hm3
          go_upto_region 14 with (at_builtin; refine Lib.wpList_append_run _ rfl _ _ _ _ rfl _ _ rfl rfl _ _ (HRUN2.out _) ?_)
          clear p0 p1 p2 p3 p4
          have p0 : V3.cell? ⟨p, 0, none⟩ = some (.int .i64 n.dest) := (HP3.out.1) 0 _ rfl
          have p1 : V3.cell? ⟨p, 1, none⟩ = some (.int .i64 n.kind) := (HP3.out.1) 1 _ rfl
          have p2 : V3.cell? ⟨p, 2, none⟩ = some (.float .f64 n.dist) := (HP3.out.1) 2 _ rfl
          have p3 : V3.cell? ⟨p, 3, none⟩ = some (.float .f64 n.radius) := (HP3.out.1) 3 _ rfl
          have p4 : V3.cell? ⟨p, 4, none⟩ = some (.int .i64 n.home) := (HP3.out.1) 4 _ rfl
          have o0 : V3.cell? ⟨q, 0, none⟩ = some (.int .i64 od.dest) := (HP3.out.2) 0 _ rfl
          have o1 : V3.cell? ⟨q, 1, none⟩ = some (.int .i64 od.kind) := (HP3.out.2) 1 _ rfl
          have o2 : V3.cell? ⟨q, 2, none⟩ = some (.float .f64 od.dist) := (HP3.out.2) 2 _ rfl
          have o3 : V3.cell? ⟨q, 3, none⟩ = some (.float .f64 od.radius) := (HP3.out.2) 3 _ rfl
          have o4 : V3.cell? ⟨q, 4, none⟩ = some (.int .i64 od.home) := (HP3.out.2) 4 _ rfl
          have hcmp : ∀ W, (binOp .neq 61 (.agg #[.int .i64 n.dest, .int .i64 n.kind, .float .f64 n.dist, .float .f64 n.radius, .int .i64 n.home]) (.agg #[.int .i64 od.dest, .int .i64 od.kind, .float .f64 od.dist, .float .f64 od.radius, .int .i64 od.home])).run Tryz.prog W = .ok (.bool (chgd L n)) W := fun W => by rw [← HCH.out]; exact cmp_run (cmp_news HNB.out HNF.out) HOD.out W
          cases hcb : chgd L n with
          | false =>
            rw [hcb] at hcmp
            have HNX := Lib.hid (HMGN.out ch (by rw [hcb]; rfl))
            clear hcb
            go_wp2_with fail
            exact ⟨⟨k + 1, Kq.hi n L, M3, ch, a4, c4, a5, c5, rfl, rfl, rfl, congrArg (Value.int .i64) (by omega), HNX.out⟩, by show news.length - ((k : Int) + 1).toNat < news.length - (k : Int).toNat; have := HNN.out.1; omega⟩
          | true =>
            rw [hcb] at hcmp
            have HNX := Lib.hid (HMGN.out (ch + 1) (by rw [hcb]; rfl))
            clear hcb
            go_wp2_with fail
            exact ⟨⟨k + 1, Kq.hi n L, M3, (ch + 1), a4, c4, a5, c5, rfl, rfl, congrArg (Value.int .i64) (by omega), congrArg (Value.int .i64) (by omega), HNX.out⟩, by show news.length - ((k : Int) + 1).toNat < news.length - (k : Int).toNat; have := HNN.out.1; omega⟩
    · -- the end: what is left
      have hnk : ¬ (k : Int) < (news.length : Int) := by omega
      have hkl : k = news.length := by have := HG.out.kle; omega
      have htot : M ++ L = mrg l news := by have := HG.out.tot; rw [hkl, List.drop_length] at this; simpa [mrg] using this
      have hnum : ch = chg l news := by have := HG.out.num; rw [hkl, List.drop_length] at this; simpa [chg] using this
      obtain ⟨r, x1, x2⟩ := HG.out.row
      have hml := HG.out.ml
      have hle := HLE.out
      have hsz := HG.out.siz
      obtain ⟨r0, h0, h1⟩ := nr_fresh x2 wr.heap.size
      obtain ⟨a5, c5, V3, r5, hrun, hrow, hr5, hb5⟩ := nw_appm (c2 := cL) (B := w.heap.size) (w0 := w) h0 (NwS.of_news HG.out.list (by omega)) (by omega) (by omega) HG.out.bel (by omega)
      rw [htot] at hrun hrow
      have HRUN := Lib.hid hrun
      have HROW := Lib.hid (And.intro hrow (And.intro hr5 hb5))
      have HNUM := Lib.hid hnum
      clear hrun hrow hr5 hb5 hkl htot hnum x1 x2 hml hle hsz h0 h1 hlt
      generalize hME : mrg l news = MM at *
      have HME := Lib.hid hME
      clear hME
      go_wp2_with (at_builtin; refine Lib.wpList_append_run _ rfl _ _ _ _ rfl _ _ rfl rfl _ _ (HRUN.out _) ?_)
      refine bodyPost_ret (v := .tuple #[.slice a5 MM.length c5, .int .i64 (ch : Int)]) (by simp [results, Tryz.results46, go_sem]) rfl ?_
      exact ⟨HROW.out.2.2, a5, c5, r5, HROW.out.2.1, by rw [HNUM.out, HME.out], by rw [HME.out]; exact HROW.out.1⟩
end Go.Proofs.YtjhmfmpaaljegaaGreat
