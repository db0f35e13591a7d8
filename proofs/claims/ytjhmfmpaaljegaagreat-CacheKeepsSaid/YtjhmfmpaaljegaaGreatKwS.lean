/- Caches, the laws: a cache and a row of the document's, each of its own content; news as an argument. -/
import Derived.Test.YtjhmfmpaaljegaaGreatKwR
import Derived.Test.YtjhmfmpaaljegaaGreatKqC
namespace Go.Proofs.YtjhmfmpaaljegaaGreat
open Go.RowKit Go.Lib Go.Wq Go.Ow Go.Cw Go.Fq Go.Mq Go.Kq Go.Kw
set_option linter.unusedVariables false
set_option linter.unusedSimpArgs false
set_option maxRecDepth 100000

/-- A cache that knows M, and a row of the document's, apart from it. -/
def Bq (B : Nat) (w : World) (c : Nat) (M : List Hd) (l : List Hv) (a : Option Addr) : Prop := ∃ S T U mb N, Cb S T w c mb N ∧ plain N = M ∧ HdIn U w l a ∧ (∀ b, U b → ¬ S b) ∧ ∀ b, S b → B ≤ b
theorem Bx.bq {B : Nat} {w : World} {c : Nat} {l : List Hv} {a : Option Addr} (h : Bx B w c l a) : Bq B w c (hds l) l a := by
  obtain ⟨S, T, U, mb, N, h⟩ := h
  exact ⟨S, T, U, mb, N, h.cb, h.eq, h.hd, h.ap, h.lo⟩
theorem Bq.below {B : Nat} {w w2 : World} {c : Nat} {M : List Hd} {l : List Hv} {a : Option Addr} (h : Bq B w c M l a) (hb : Below w.heap.size w w2) : Bq B w2 c M l a := by
  obtain ⟨S, T, U, mb, N, h1, h2, h3, h4, h5⟩ := h
  exact ⟨S, T, U, mb, N, h1.below hb, h2, h3.below hb, h4, h5⟩
theorem Bq.ok {B : Nat} {w : World} {c : Nat} {M : List Hd} {l : List Hv} {a : Option Addr} (h : Bq B w c M l a) : OkH M := by
  obtain ⟨S, T, U, mb, N, h1, h2, h3, h4, h5⟩ := h
  exact h2 ▸ h1.ok
/-- What a call of the cache leaves. -/
theorem bq_pst {B : Nat} {S T U : Nat → Prop} {w w2 : World} {c : Nat} {M' : List Hd} {l : List Hv} {a : Option Addr} (h3 : HdIn U w l a) (h4 : ∀ b, U b → ¬ S b) (h5 : ∀ b, S b → B ≤ b) (hB : B ≤ w.heap.size) (hp : Pst S T w w2 c M') : Bq B w2 c M' l a ∧ Below B w w2 := by
  obtain ⟨hx, S', T', mb', N', hpl, hcb, hS, hT⟩ := hp
  refine ⟨⟨S', T', (fun b => U b ∧ b < w.heap.size), mb', N', hcb, hpl, h3.lt.kept (fun b hb1 hb2 => hx.block b hb2 (h4 b hb1.1)) hx.size, fun b hb1 hb2 => ?_, fun b hb1 => ?_⟩, hx.below h5 hB⟩
  · rcases hS b hb2 with e | e
    · exact h4 b hb1.1 e
    · have := hb1.2; omega
  · rcases hS b hb1 with e | e
    · exact h5 b e
    · omega
theorem bq_learn {B : Nat} {w : World} {c : Nat} {M : List Hd} {l : List Hv} {a : Option Addr} (h : Bq B w c M l a) (hB : B ≤ w.heap.size) {id : Int} (hid : -9223372036854775808 ≤ id ∧ id < 9223372036854775808) (news : List Nw) (na : Option Addr) (nc : Nat) (hin : NewsIn w w.heap.size news na) (hfit : ∀ x ∈ news, x.Fit) (hnc : news.length ≤ nc ∧ nc ≤ 9223372036854775807) :
    Calls Tryz.prog 20 #[.pointer (some ⟨c, 0, none⟩), .int .i64 id, .slice na news.length nc] w fun e w' => e = .returned (.tuple #[.int .i64 ((learnR M id news).2.1 : Int), .int .i64 (learnR M id news).1]) ∧ Bq B w' c (learnR M id news).2.2 l a ∧ Below B w w' := by
  obtain ⟨S, T, U, mb, N, h1, h2, h3, h4, h5⟩ := h
  subst h2
  refine (kLearn_any h1 hid news na nc hin hfit hnc.1 hnc.2).mono ?_
  rintro e w' ⟨rfl, hp⟩
  exact ⟨rfl, bq_pst h3 h4 h5 hB hp⟩
theorem bq_forget {B : Nat} {w : World} {c : Nat} {M : List Hd} {l : List Hv} {a : Option Addr} (h : Bq B w c M l a) (hB : B ≤ w.heap.size) {id : Int} (hid : -9223372036854775808 ≤ id ∧ id < 9223372036854775808) :
    Calls Tryz.prog 22 #[.pointer (some ⟨c, 0, none⟩), .int .i64 id] w fun e w' => e = .returned (.tuple #[.int .i64 ((forgetR M id).2.1 : Int), .int .i64 (forgetR M id).1]) ∧ Bq B w' c (forgetR M id).2.2 l a ∧ Below B w w' := by
  obtain ⟨S, T, U, mb, N, h1, h2, h3, h4, h5⟩ := h
  subst h2
  refine (kForget_any h1 hid).mono ?_
  rintro e w' ⟨rfl, hp⟩
  exact ⟨rfl, bq_pst h3 h4 h5 hB hp⟩
theorem bq_list {B : Nat} {w : World} {c : Nat} {M : List Hd} {l : List Hv} {a : Option Addr} (h : Bq B w c M l a) {k : Int} (hk : -9223372036854775808 ≤ k ∧ k < 9223372036854775808) :
    Calls Tryz.prog 11 #[.pointer (some ⟨c, 0, none⟩), .int .i64 k] w fun e w' => NwRet w (listR M k).2 (fun v => .tuple #[v, .int .i64 (listR M k).1]) e w' := by
  obtain ⟨S, T, U, mb, N, h1, h2, h3, h4, h5⟩ := h
  subst h2
  exact kList_any h1 hk
theorem bq_doc {B : Nat} {w : World} {c : Nat} {M : List Hd} {l : List Hv} {a : Option Addr} (k : Nat) (h : Bq B w c M l a) (ok : OkH (hds l)) (id : Int) (news : List Nw) (na : Option Addr) (nc : Nat) (hin : NewsIn w w.heap.size news na) (hfit : ∀ x ∈ news, x.Fit) (hlen : (news.length + 1) * 40 ≤ 140737488355328) :
    Calls Tryz.prog 21 #[.slice a l.length k, .int .i64 id, .slice na news.length nc] w fun e w' => ∃ a' l' k', e = .returned (.tuple #[.slice a' l'.length k', .int .i64 ((learnR (hds l) id news).2.1 : Int), .int .i64 (learnR (hds l) id news).1]) ∧ hds l' = (learnR (hds l) id news).2.2 ∧ Below w.heap.size w w' := by
  obtain ⟨S, T, U, mb, N, h1, h2, h3, h4, h5⟩ := h
  refine (rLearn_any l a k id news na nc w h3 ok hin hfit (by omega)).mono ?_
  rintro e w' ⟨l', a', k', hM, rfl, hhd, hb⟩
  exact ⟨a', l', k', rfl, hM, hb⟩
theorem learn_fail {M : List Hd} {id : Int} {news : List Nw} (h : (learnR M id news).1 ≠ 0) : (learnR M id news).2.2 = M := by
  unfold learnR at h ⊢
  cases hf : fnd M id with
  | none => rfl
  | some x =>
    rw [hf] at h
    cases ho : orderB news with
    | false => rfl
    | true => rw [ho] at h; exact absurd rfl h
/-- News as an argument. -/
structure NewsArg (w : World) (l : List Nw) (a : Option Addr) (c : Nat) : Prop where
  rows : NewsIn w w.heap.size l a
  fit : ∀ y ∈ l, y.Fit
  len : (l.length + 1) * 40 ≤ 140737488355328
  cap : l.length ≤ c ∧ c ≤ 9223372036854775807
theorem gin_news {H : Type} {enc : TypeId × Value → H} {w : World} {spare : Nat → Bool} {held : Bool} {n : Nat} {a : Option Addr} {k c : Nat} {x : DataW H × List MemPlace} (h : DataW.trod enc Tryz.prog w 0 spare held n 29 [.slice a k c] = some x) (hw : ∀ z ∈ x.1.weights Tryz.prog 29, z ≤ reachBytes) :
    ∃ l : List Nw, k = l.length ∧ NewsArg w l a c := by
  have hR : reachBytes = 140737488351232 := rfl
  obtain ⟨l, rfl, hin, hfit, hlen⟩ := in_newses h hw
  refine ⟨l, rfl, hin, hfit, by omega, ?_⟩
  rcases DataW.trod_slice Tryz.underlying29 h with ⟨h1, -⟩ | ⟨x0, len, cap, elems, rest, m, -, h1, -, -, hlc, hcm, -⟩
  · simp only [List.cons.injEq, Value.slice.injEq, and_true] at h1
    omega
  · simp only [List.cons.injEq, Value.slice.injEq, and_true] at h1
    obtain ⟨-, h2, h3⟩ := h1
    unfold maxLen at hcm
    omega
end Go.Proofs.YtjhmfmpaaljegaaGreat
