/- Messages, plainly: which may be. Messages, plainly: their fields. Structs that come in, whatever their fields. Messages, plainly: the message of fields; there and back. Messages, plainly: there and back. -/
import Derived.Test.YtfnmfmelcghjbaaFqA
import Derived.Test.YtfnmfmelcghjbaaWqAll
section
namespace Go.Mq
open Go.Fq Go.Iq
set_option linter.unusedVariables false
set_option linter.unusedSimpArgs false

/-- Is it +Inf? -/
def infP (a : Nat) : Bool := FloatKind.f64.format.order a 9218868437227405311 == some .gt
/-- Is it a distance under the greatest limit? -/
def farB (a : Nat) : Bool := distF a 4742290407621132288 == 0
def qR (a : Nat) : Bool := FloatKind.f64.format.order (mul4 a) (truncD .zero (mul4 a)) == some .eq
def farR (a : Nat) : Bool := infP a || (((a : Int) == 0) || ((FloatKind.f64.format.order a 0 == some .gt) && ((FloatKind.f64.format.order a 4742290407621132288 == some .lt) && qR a)))

theorem order_symm_eq (x y : Nat) : (FloatKind.f64.format.order x y == some .eq) = (FloatKind.f64.format.order y x == some .eq) := by
  rw [od_eq, od_eq, Bool.or_comm]
  split
  · rfl
  · rcases Int.lt_trichotomy (ik x) (ik y) with h | h | h
    · rw [Int.compare_eq_lt.2 h, Int.compare_eq_gt.2 h]; rfl
    · rw [h]
    · rw [Int.compare_eq_gt.2 h, Int.compare_eq_lt.2 h]; rfl
theorem qR_eq (a : Nat) : qR a = qF a := order_symm_eq _ _
theorem ik_zero : ik 0 = 0 := by decide +kernel
theorem nan_zero : nanB 0 = false := by decide +kernel
theorem nan_lmax : nanB 4742290407621132288 = false := by decide +kernel
theorem qF_zero : qF 0 = true := by decide +kernel
theorem infP_eq (a : Nat) (h : ng a = false) : infP a = infB a := inf_one a h
theorem infP_nan {a : Nat} (h : nanB a = true) : infP a = false := by unfold infP; rw [cmp_gt, h]; rfl
theorem infP_ng {a : Nat} (h : ng a = true) : infP a = false := by
  unfold infP; rw [cmp_gt]
  have : ik a ≤ 0 := by unfold ik; rw [h]; simp
  have h2 : ¬ ik 9218868437227405311 < ik a := by
    have : ik 9218868437227405311 = 9218868437227405311 := by decide +kernel
    omega
  simp [h2]
theorem far_eq (a : Nat) (ha : a < 2 ^ 64) : farR a = farB a := by
  unfold farR farB distF
  rw [limitF_L]
  cases hn : nanB a with
  | true =>
    have h0 : ((a : Int) == 0) = false := by
      rw [beq_eq_false_iff_ne]; intro h
      have : a = 0 := by omega
      rw [this, nan_zero] at hn; cases hn
    rw [infP_nan hn, h0, cmp_gt, hn]; rfl
  | false =>
    cases hs : ng a with
    | true =>
      have h0 : ((a : Int) == 0) = false := by
        rw [beq_eq_false_iff_ne]; intro h
        have : a = 0 := by omega
        rw [this] at hs; exact absurd hs (by decide +kernel)
      have hk : ¬ (ik 0 < ik a) := by
        rw [ik_zero]; unfold ik; rw [hs]; simp
      rw [infP_ng hs, h0, cmp_gt]; simp [hk]
    | false =>
      rw [infP_eq a hs]
      cases hi : infB a with
      | true => rfl
      | false =>
        have hb : a < 2 ^ 63 := by
          have := ng_iff a ha; rw [hs] at this
          have h2 := of_decide_eq_false this.symm; omega
        have hk : ik a = (a : Int) := by
          unfold ik; rw [hs]; unfold mg; rw [Nat.mod_eq_of_lt hb]; simp
        rw [qR_eq]
        by_cases hz : a = 0
        · subst hz
          rw [show (FloatKind.f64.format.order 0 4742290407621132288 == some .gt) = false by decide +kernel, show (FloatKind.f64.format.order 0 4742290407621132288 == some .eq) = false by decide +kernel, qF_zero]; rfl
        · have h0 : ((a : Int) == 0) = false := by rw [beq_eq_false_iff_ne]; omega
          have hg : (FloatKind.f64.format.order a 0 == some .gt) = true := by
            rw [cmp_gt, hn, nan_zero, ik_zero, hk]; simp; omega
          have hl : (FloatKind.f64.format.order a 4742290407621132288 == some .gt || FloatKind.f64.format.order a 4742290407621132288 == some .eq) = !(FloatKind.f64.format.order a 4742290407621132288 == some .lt) := by
            rw [od_num hn nan_lmax]
            generalize compare (ik a) (ik 4742290407621132288) = c
            cases c <;> rfl
          rw [h0, hg, hl]
          cases (FloatKind.f64.format.order a 4742290407621132288 == some .lt) <;> cases qF a <;> simp
/-- A number, a name. -/
def numB (n : Int) : Bool := idE n == 0
def namB (s : ByteArray) : Bool := nameE s.data.toList == 0
structure Nw where
  dest : Int
  kind : Int
  dist : Nat
  radius : Nat
  home : Int
structure Pk where
  kind : Int
  frm : Int
  back : Int
  to : Int
  home : Int
  hops : Int
  serial : Nat
  code : Int
  name : ByteArray
  id : Int
  at_ : Int
  body : ByteArray
structure Ms where
  kind : Int
  nonce : Nat
  echo : Nat
  seq : Nat
  news : List Nw
  pk : Pk
/-- What a value of Go's may hold. -/
structure Nw.Fit (n : Nw) : Prop where
  d : -9223372036854775808 ≤ n.dest ∧ n.dest < 9223372036854775808
  k : -9223372036854775808 ≤ n.kind ∧ n.kind < 9223372036854775808
  h : -9223372036854775808 ≤ n.home ∧ n.home < 9223372036854775808
  x : n.dist < 2 ^ 64
  r : n.radius < 2 ^ 64
def noHome (n : Nw) : Bool := ((n.radius : Int) == 0) && (n.home == 0)
def itsHome (n : Nw) : Bool := if infP n.radius then n.home == 0 else farB n.radius && numB n.home
def newsB (n : Nw) : Bool := numB n.dest && farB n.dist && (if n.kind == 1 then noHome n else if n.kind == 2 then (if infP n.dist then noHome n else itsHome n) else false)
def aheadB (a b : Nw) : Bool := if a.kind == b.kind then decide (a.dest < b.dest) else decide (a.kind < b.kind)
/-- News in their order, each one that may be. -/
def OrderP (l : List Nw) : Prop := ∀ k (h : k < l.length), newsB l[k] = true ∧ (0 < k → aheadB (l[k - 1]'(by omega)) l[k] = true)
instance (l : List Nw) : Decidable (OrderP l) := inferInstanceAs (Decidable (∀ k (h : k < l.length), newsB l[k] = true ∧ (0 < k → aheadB (l[k - 1]'(by omega)) l[k] = true)))
def orderB (l : List Nw) : Bool := decide (OrderP l)
def toldB (l : List Nw) : Bool := decide (l.length ≤ 512) && orderB l
def hasAddr (p : Pk) : Bool := numB p.id && (p.at_ == 0 || numB p.at_)
def noAddr (p : Pk) : Bool := p.id == 0 && p.at_ == 0
def contentB (p : Pk) : Bool :=
  if p.kind == 1 then p.code == 0 && p.name.toList.isEmpty && noAddr p && decide ((p.body.size : Int) ≤ 1024)
  else if p.kind == 2 then p.code == 0 && namB p.name && hasAddr p && p.body.toList.isEmpty
  else if p.kind == 3 then p.code == 0 && namB p.name && noAddr p && p.body.toList.isEmpty
  else if p.kind == 4 then ((p.code == 0 && hasAddr p) || (p.code == 1 && noAddr p)) && namB p.name && p.body.toList.isEmpty
  else false
def packB (p : Pk) : Bool := numB p.frm && (p.back == 0 || numB p.back) && numB p.to && (p.home == 0 || numB p.home) && decide (0 ≤ p.hops) && decide (p.hops ≤ 65536) && contentB p
def zeroPk (p : Pk) : Bool := p.kind == 0 && p.frm == 0 && p.back == 0 && p.to == 0 && p.home == 0 && p.hops == 0 && p.serial == 0 && p.code == 0 && p.name.toList.isEmpty && p.id == 0 && p.at_ == 0 && p.body.toList.isEmpty
/-- May a message be? -/
def mayB (m : Ms) : Bool :=
  if m.kind == 1 then decide ((1 : Int) ≤ (m.nonce : Int)) && ((m.seq : Int) == 0) && ((m.news.length : Int) == 0) && zeroPk m.pk
  else if m.kind == 2 then decide ((1 : Int) ≤ (m.nonce : Int)) && decide ((1 : Int) ≤ (m.echo : Int)) && decide ((1 : Int) ≤ (m.seq : Int)) && toldB m.news && zeroPk m.pk
  else if m.kind == 3 then decide ((1 : Int) ≤ (m.nonce : Int)) && decide ((1 : Int) ≤ (m.echo : Int)) && decide ((1 : Int) ≤ (m.seq : Int)) && ((m.news.length : Int) == 0) && zeroPk m.pk
  else if m.kind == 4 then ((m.nonce : Int) == 0) && ((m.echo : Int) == 0) && ((m.seq : Int) == 0) && ((m.news.length : Int) == 0) && packB m.pk
  else false
end Go.Mq
end

section
namespace Go.Mq
open Go.Fq Go.Iq Go.Wq Go.RowKit Go.Lib
set_option linter.unusedVariables false
set_option linter.unusedSimpArgs false

/-- A whole number as one without a sign. -/
def uOf (x : Int) : Nat := (IntKind.u64.wrap x).toNat
theorem uOf_wrap (x : Int) : IntKind.u64.wrap x = (uOf x : Int) := by
  have := wrap_bd x
  unfold U64 at this
  unfold uOf; omega
theorem uOf_lt (x : Int) : uOf x < 2 ^ 64 := by
  have := wrap_bd x
  unfold U64 at this
  unfold uOf; omega
theorem uOf_pos (x : Int) (h0 : 0 ≤ x) (h1 : x < 9223372036854775808) : (uOf x : Int) = x := by
  rw [← uOf_wrap, IntKind.wrap_u64]; omega
theorem uOf_inj {x y : Int} (h0 : -9223372036854775808 ≤ x ∧ x < 9223372036854775808) (h1 : -9223372036854775808 ≤ y ∧ y < 9223372036854775808) (h : uOf x = uOf y) : x = y := by
  have := congrArg (Nat.cast : Nat → Int) h
  rw [← uOf_wrap, ← uOf_wrap, IntKind.wrap_u64, IntKind.wrap_u64] at this
  omega
def fU (n : Nat) : Fld := .mk n 0 0 false [] []
def fF (n : Nat) : Fld := .mk 0 0 n false [] []
def fT (s : List UInt8) : Fld := .mk 0 0 0 false s []
def fL (l : List (List Fld)) : Fld := .mk 0 0 0 false [] l
/-- The fields of one News, of news, of a packet, of a message. -/
def nwRow (n : Nw) : List Fld := [fU (uOf n.dest), fU (uOf n.kind), fF n.dist, fF n.radius, fU (uOf n.home)]
def nwRows (l : List Nw) : List (List Fld) := l.map nwRow
def pkNums (p : Pk) : List Nat := [uOf p.kind, uOf p.frm, uOf p.back, uOf p.to, uOf p.home, uOf p.hops, p.serial, uOf p.code, uOf p.id, uOf p.at_]
def pkFlds (p : Pk) : List Fld := (pkNums p).map fU ++ [fT p.name.data.toList, fT p.body.data.toList]
def fldsOf (m : Ms) : List Fld :=
  if m.kind == 1 then [fU (uOf m.kind), fU m.nonce, fU m.echo]
  else if m.kind == 4 then [fU (uOf m.kind)] ++ pkFlds m.pk
  else if m.kind == 2 then [fU (uOf m.kind), fU m.nonce, fU m.echo, fU m.seq, fL (nwRows m.news)]
  else [fU (uOf m.kind), fU m.nonce, fU m.echo, fU m.seq]
/-- What a value of Go's may hold. -/
structure Ms.Fit (m : Ms) : Prop where
  k : -9223372036854775808 ≤ m.kind ∧ m.kind < 9223372036854775808
  n : m.nonce < 2 ^ 64
  e : m.echo < 2 ^ 64
  s : m.seq < 2 ^ 64
  news : ∀ n ∈ m.news, n.Fit
  len : m.news.length < 4611686018427387904
  pk : -9223372036854775808 ≤ m.pk.kind ∧ m.pk.kind < 9223372036854775808
  pf : -9223372036854775808 ≤ m.pk.frm ∧ m.pk.frm < 9223372036854775808
  pb : -9223372036854775808 ≤ m.pk.back ∧ m.pk.back < 9223372036854775808
  pt : -9223372036854775808 ≤ m.pk.to ∧ m.pk.to < 9223372036854775808
  ph : -9223372036854775808 ≤ m.pk.home ∧ m.pk.home < 9223372036854775808
  po : -9223372036854775808 ≤ m.pk.hops ∧ m.pk.hops < 9223372036854775808
  ps : m.pk.serial < 2 ^ 64
  pc : -9223372036854775808 ≤ m.pk.code ∧ m.pk.code < 9223372036854775808
  pi : -9223372036854775808 ≤ m.pk.id ∧ m.pk.id < 9223372036854775808
  pa : -9223372036854775808 ≤ m.pk.at_ ∧ m.pk.at_ < 9223372036854775808
  nm : m.pk.name.size ≤ 140737488351232
  bd : m.pk.body.size ≤ 140737488351232

theorem fine_U {n : Nat} (h : n < 2 ^ 64) : Fine (fU n) := ⟨.mk h (by omega) (by omega) (by omega) (by simp) (by simp) (by simp), .mk (by simp) (by simp), .mk (by simp) (by simp) (by simp)⟩
theorem fine_F {n : Nat} (h : n < 2 ^ 64) : Fine (fF n) := ⟨.mk (by omega) (by omega) (by omega) h (by simp) (by simp) (by simp), .mk (by simp) (by simp), .mk (by simp) (by simp) (by simp)⟩
theorem fine_T {s : List UInt8} (h : s.length ≤ 140737488351232) : Fine (fT s) := ⟨.mk (by omega) (by omega) (by omega) (by omega) (by omega) (by simp) (by simp), .mk h (by simp), .mk (by simp) (by simp) (by simp)⟩
theorem fine_row {n : Nw} (h : n.Fit) : ∀ y ∈ nwRow n, Fine y := by
  intro y hy
  simp only [nwRow, List.mem_cons, List.not_mem_nil, or_false] at hy
  rcases hy with rfl | rfl | rfl | rfl | rfl
  · exact fine_U (uOf_lt _)
  · exact fine_U (uOf_lt _)
  · exact fine_F h.x
  · exact fine_F h.r
  · exact fine_U (uOf_lt _)
theorem fine_L {l : List Nw} (hl : l.length < 4611686018427387904) (h : ∀ n ∈ l, n.Fit) : Fine (fL (nwRows l)) := by
  have hr : ∀ r ∈ nwRows l, ∃ n ∈ l, nwRow n = r := fun r hr => by simpa [nwRows] using hr
  have hlen : (nwRows l).length = l.length := by simp [nwRows]
  refine ⟨.mk (by omega) (by omega) (by omega) (by omega) (by simp) (by omega) ?_, .mk (by simp) ?_, .mk (by omega) ?_ ?_⟩
  · intro r hr' x hx; obtain ⟨n, hn, rfl⟩ := hr r hr'; exact (fine_row (h n hn) x hx).1
  · intro r hr' x hx; obtain ⟨n, hn, rfl⟩ := hr r hr'; exact (fine_row (h n hn) x hx).2.1
  · intro r hr'; obtain ⟨n, hn, rfl⟩ := hr r hr'; simp [nwRow]
  · intro r hr' x hx; obtain ⟨n, hn, rfl⟩ := hr r hr'; exact (fine_row (h n hn) x hx).2.2
theorem bytes_len (s : ByteArray) : s.data.toList.length = s.size := Array.length_toList
theorem fine_flds {m : Ms} (h : m.Fit) : ∀ y ∈ fldsOf m, Fine y := by
  intro y hy
  unfold fldsOf at hy
  have hn := bytes_len m.pk.name
  have hb := bytes_len m.pk.body
  split at hy
  · simp only [List.mem_cons, List.not_mem_nil, or_false] at hy
    rcases hy with rfl | rfl | rfl
    · exact fine_U (uOf_lt _)
    · exact fine_U h.n
    · exact fine_U h.e
  · split at hy
    · simp only [pkFlds, pkNums, List.map_cons, List.map_nil, List.cons_append, List.nil_append, List.mem_cons, List.not_mem_nil, or_false] at hy
      rcases hy with rfl | rfl | rfl | rfl | rfl | rfl | rfl | rfl | rfl | rfl | rfl | rfl | rfl
      · exact fine_U (uOf_lt _)
      · exact fine_U (uOf_lt _)
      · exact fine_U (uOf_lt _)
      · exact fine_U (uOf_lt _)
      · exact fine_U (uOf_lt _)
      · exact fine_U (uOf_lt _)
      · exact fine_U (uOf_lt _)
      · exact fine_U h.ps
      · exact fine_U (uOf_lt _)
      · exact fine_U (uOf_lt _)
      · exact fine_U (uOf_lt _)
      · exact fine_T (by rw [hn]; exact h.nm)
      · exact fine_T (by rw [hb]; exact h.bd)
    · split at hy
      · simp only [List.mem_cons, List.not_mem_nil, or_false] at hy
        rcases hy with rfl | rfl | rfl | rfl | rfl
        · exact fine_U (uOf_lt _)
        · exact fine_U h.n
        · exact fine_U h.e
        · exact fine_U h.s
        · exact fine_L h.len h.news
      · simp only [List.mem_cons, List.not_mem_nil, or_false] at hy
        rcases hy with rfl | rfl | rfl | rfl
        · exact fine_U (uOf_lt _)
        · exact fine_U h.n
        · exact fine_U h.e
        · exact fine_U h.s

/-- The shapes. -/
def shp (k : Int) : ByteArray :=
  if k == 1 then ⟨#[117, 117, 117]⟩ else if k == 2 then ⟨#[117, 117, 117, 117, 40, 117, 117, 102, 102, 117, 41]⟩ else if k == 3 then ⟨#[117, 117, 117, 117]⟩
  else if k == 4 then ⟨#[117, 117, 117, 117, 117, 117, 117, 117, 117, 117, 117, 116, 116]⟩ else ⟨#[]⟩

/-- The cells of fields that are numbers alone. -/
def ucell (n : Nat) : List Value := [.int .u64 (n : Int), .int .i64 0, .float .f64 0, .bool false, .string ⟨#[]⟩, .slice none 0 0]
def ucells : List Nat → List Value
  | [] => []
  | n :: l => ucell n ++ ucells l
theorem ucells_len : ∀ l, (ucells l).length = l.length * 6
  | [] => rfl
  | n :: l => by simp only [ucells, ucell, List.length_append, List.length_cons, List.length_nil, ucells_len l]; omega
theorem ucells_append : ∀ (l m : List Nat), ucells (l ++ m) = ucells l ++ ucells m
  | [], m => rfl
  | n :: l, m => by simp only [List.cons_append, ucells, ucells_append l m, List.append_assoc]
theorem ucells_set : ∀ (l : List Nat) (k : Nat) (z : Nat), (ucells l).set (k * 6) (.int .u64 (z : Int)) = ucells (l.set k z)
  | [], k, z => by simp [ucells]
  | n :: l, 0, z => by simp [ucells, ucell]
  | n :: l, k + 1, z => by
    rw [show (k + 1) * 6 = k * 6 + 6 by omega]
    simp only [ucells, ucell, List.cons_append, List.nil_append, List.set_cons_succ, ucells_set l k z]
theorem ucells_zero : ∀ n : Nat, ucells (List.replicate n 0) = (List.replicate n [Value.int .u64 0, .int .i64 0, .float .f64 0, .bool false, .string ⟨#[]⟩, .slice none 0 0]).flatten
  | 0 => rfl
  | n + 1 => by simp only [List.replicate_succ, ucells, List.flatten_cons, ucells_zero n]; rfl
theorem ucells_held (w : World) (S : Nat → Prop) : ∀ l : List Nat, FCellsS w S (ucells l) (l.map fU)
  | [] => .nil
  | n :: l => by
    have := FCellsS.cons (w := w) (S := S) (u := n) (i := 0) (f := 0) (bb := false) (s := ⟨#[]⟩) (l := []) (ra := none) (rn := 0) (rc := 0) (by simp [RowsS]) (ucells_held w S l)
    exact this
theorem own_le {w : World} {base base' e size : Nat} {v : Value} {n : Nat} {xs : List Value} (h : w.ownsRow base e size v n xs) (hb : base' ≤ base) : w.ownsRow base' e size v n xs := by
  refine ⟨h.1, ?_⟩
  rcases h.2 with h | ⟨g, cap, cur, h1, h2, h3⟩
  · exact Or.inl h
  · exact Or.inr ⟨g, cap, cur, h1, Nat.le_trans hb h2, h3⟩
theorem own_form {w : World} {base e size : Nat} {v : Value} {n : Nat} {xs : List Value} (h : w.ownsRow base e size v n xs) : ∃ (a : Option Addr) (c : Nat), v = .slice a n c := by
  rcases h.2 with ⟨rfl, rfl⟩ | ⟨g, cap, cur, rfl, _⟩
  · exact ⟨none, 0, rfl⟩
  · exact ⟨_, cap, rfl⟩
theorem spot_add (g o j : Nat) : ((⟨g, o, none⟩ : Addr).add j) = ⟨g, o + j, none⟩ := by rw [add_none]
/-- A loop that fills rows: those so far. -/
def FillR (w : World) (base : Nat) (t : TypeId) (g n : Nat) (l : List (List Fld)) : Prop :=
  ∃ xs ys, w.ownsRow base t 1 (.slice (some ⟨g, 0, none⟩) n n) n (xs ++ ys) ∧ RCellsS w (Mine base w (.slice (some ⟨g, 0, none⟩) n n)) xs l
theorem set1 (xs ys : List Value) (k : Nat) (hk : xs.length = k) (hy : 1 ≤ ys.length) (u : Value) : (xs ++ ys).set k u = (xs ++ [u]) ++ ys.drop 1 := by
  match ys, hy with
  | y :: ys, _ => rw [← hk]; simp [List.set_append_right]
theorem FillR.next {w w'' : World} {base : Nat} {t : TypeId} {g n : Nat} {l : List (List Fld)} (h : FillR w base t g n l) (hk : l.length < n) (hb : Below w.heap.size w w'') {r : List Fld} {sa : Option Addr} {sn : Nat} (sc : Nat)
    (hr : FldsS w'' (Mine base w'' (.slice (some ⟨g, 0, none⟩) n n)) r sa sn) : FillR (w''.setCell ⟨g, l.length, none⟩ (.slice sa sn sc)) base t g n (l ++ [r]) := by
  obtain ⟨xs, ys, ho, hc⟩ := h
  have hl := ho.1
  have hx := hc.len
  rw [List.length_append, hx] at hl
  have ho2 := own_kept ho hb
  have e := (ho2.stored l.length (.slice sa sn sc)).1
  rw [set1 xs ys l.length hx (by omega)] at e
  refine ⟨_, _, e, ?_⟩
  have hc2 : RCellsS w'' (Mine base w'' (.slice (some ⟨g, 0, none⟩) n n)) xs l := hc.kept (fun k hk => hb.block k hk.2.1) (fun k hk => ⟨hk.1, Nat.lt_of_lt_of_le hk.2.1 hb.size, hk.2.2⟩)
  exact (hc2.snoc sc hr).kept (fun k hk => Below.heap_setCell _ _ _ _ (fun e => hk.2.2 (by simp [Value.ownBlock, e]))) (fun k hk => ⟨hk.1, by simpa [World.setCell] using hk.2.1, hk.2.2⟩)
theorem FillR.all {w : World} {base : Nat} {t : TypeId} {g n : Nat} {l : List (List Fld)} (h : FillR w base t g n l) (hn : l.length = n) : RowsS w (fun k => base ≤ k ∧ k < w.heap.size) l (some ⟨g, 0, none⟩) l.length := by
  obtain ⟨xs, ys, ho, hc⟩ := h
  have hl := ho.1
  rw [List.length_append, hc.len, hn] at hl
  have : ys = [] := List.eq_nil_of_length_eq_zero (by omega)
  subst this
  rw [List.append_nil] at ho
  subst hn
  obtain ⟨a, c, e, hf⟩ := own_rows ho hc
  injection e with e1 _ _
  rw [e1]; exact hf
theorem FillR.spot {w : World} {base : Nat} {t : TypeId} {g n : Nat} {l : List (List Fld)} (h : FillR w base t g n l) (k : Nat) (hk : k < n) : w.frozen? ⟨g, k, none⟩ = false ∧ ∃ v, w.cell? ⟨g, k, none⟩ = some v := by
  obtain ⟨xs, ys, ho, hc⟩ := h
  have hl : (xs ++ ys).length = n * 1 := ho.1
  exact ⟨ho.frozenAt k, (xs ++ ys)[k]'(by omega), (ho.cellAt k (by omega)).trans (List.getElem?_eq_getElem _)⟩
theorem FillR.home {w : World} {base : Nat} {t : TypeId} {g n : Nat} {l : List (List Fld)} (h : FillR w base t g n l) : base ≤ g ∧ g < w.heap.size := by
  obtain ⟨xs, ys, ho, hc⟩ := h
  exact ho.lt g rfl
/-- The cells of a field that is a float alone; of one News. -/
def fcell (n : Nat) : List Value := [.int .u64 0, .int .i64 0, .float .f64 n, .bool false, .string ⟨#[]⟩, .slice none 0 0]
def ncells (d k : Nat) (x r : Nat) (h : Nat) : List Value := ucell d ++ (ucell k ++ (fcell x ++ (fcell r ++ ucell h)))
theorem ucell_held (w : World) (S : Nat → Prop) (n : Nat) : FCellsS w S (ucell n) [fU n] := FCellsS.cons (u := n) (i := 0) (f := 0) (bb := false) (s := ⟨#[]⟩) (l := []) (ra := none) (rn := 0) (rc := 0) (by simp [RowsS]) .nil
theorem fcell_held (w : World) (S : Nat → Prop) (n : Nat) : FCellsS w S (fcell n) [fF n] := FCellsS.cons (u := 0) (i := 0) (f := n) (bb := false) (s := ⟨#[]⟩) (l := []) (ra := none) (rn := 0) (rc := 0) (by simp [RowsS]) .nil
theorem ncells_held (w : World) (S : Nat → Prop) (n : Nw) : FCellsS w S (ncells (uOf n.dest) (uOf n.kind) n.dist n.radius (uOf n.home)) (nwRow n) :=
  (ucell_held w S _).append ((ucell_held w S _).append ((fcell_held w S _).append ((fcell_held w S _).append (ucell_held w S _))))
end Go.Mq
end

section
namespace Go.Mq
open Go.Wq Go.RowKit Go.Lib
set_option linter.unusedVariables false
set_option linter.unusedSimpArgs false

/-- A struct of these fields (type and offset). -/
def St (P : Program) (t : TypeId) (ps : List (TypeId × Nat)) : Prop := ∃ fs : Array Field, P.underlying t = some (.struct fs) ∧ fs.toList.map (fun f => (f.type, f.offset)) = ps
theorem St.opens {H : Type} {enc : TypeId × Value → H} {P : Program} {w : World} {base fuel : Nat} {spare : Nat → Bool} {held : Bool} {t : TypeId} {ps : List (TypeId × Nat)} {cs : List Value} {d : DataW H} {q : List MemPlace} (S : St P t ps)
    (h : DataW.trod enc P w base spare held fuel t cs = some (d, q)) :
    ∃ (xs : List (DataW H × List MemPlace)) (n : Nat), fuel = n + 1 ∧ d = .agg (xs.map (·.1)) ∧ cs.length = P.cellsOf t ∧ xs.length = ps.length ∧
      (∀ i (hi : i < ps.length), DataW.trod enc P w base spare held n (ps[i]).1 ((cs.drop (ps[i]).2).take (P.cellsOf (ps[i]).1)) = xs[i]?) ∧
      ∀ Q : Nat → Prop, (∀ x ∈ d.weights P t, Q x) → ∀ i (hi : i < ps.length) y, xs[i]? = some y → ∀ x ∈ y.1.weights P (ps[i]).1, Q x := by
  obtain ⟨fs, hfs, hmap⟩ := S
  obtain ⟨xs, n, hf, hx, hcl, hxl, hat⟩ := DataW.trod_struct hfs h
  have hlen : fs.size = ps.length := by rw [← hmap]; simp
  have hd : d = .agg (xs.map (·.1)) := congrArg Prod.fst hx
  refine ⟨xs, n, hf, hd, hcl, by omega, ?_, ?_⟩
  · intro i hi
    have h1 : i < fs.size := by omega
    have h2 : (fs.toList.map (fun f => (f.type, f.offset)))[i]? = some (fs[i].type, fs[i].offset) := by simp [h1]
    rw [hmap, List.getElem?_eq_getElem hi] at h2
    have h3 := Option.some.inj h2
    have h4 := hat i fs[i] (by simp [h1])
    rw [h3]
    exact h4
  · intro Q hQ i hi y hy z hz
    subst hd
    have h1 : i < fs.size := by omega
    have h2 : (fs.toList.map (fun f => (f.type, f.offset)))[i]? = some (fs[i].type, fs[i].offset) := by simp [h1]
    rw [hmap, List.getElem?_eq_getElem hi] at h2
    have h3 := congrArg Prod.fst (Option.some.inj h2)
    refine hQ z ?_
    simp only [DataW.weights, hfs]
    refine DataW.weights_mem_each (j := i) (t := (ps[i]).1) (d := y.1) ?_ ?_ z hz
    · rw [h3]; simp [h1]
    · rw [List.getElem?_map, hy]; rfl
end Go.Mq
end

section
namespace Go.Mq
open Go.Fq Go.Iq Go.Wq Go.RowKit Go.Lib
set_option linter.unusedVariables false
set_option linter.unusedSimpArgs false

theorem num_le {x : Int} (h : numB x = true) : 1 ≤ x ∧ x ≤ 2147483647 := by
  unfold numB at h
  cases hb : idB x with
  | false => rw [idE_no hb] at h; simp at h
  | true => unfold idB at hb; simp at hb; omega
/-- A field's number as a whole one: the program's, the document's. -/
def wM (n : Nat) : Int := if 2147483647 < n then -1 else (n : Int)
def wR (n : Nat) : Int := if 4611686018427387904 < n then -1 else (n : Int)
def fz : Fld := .mk 0 0 0 false [] []
def fat (l : List Fld) (k : Nat) : Fld := l.getD k fz
def nwOf (w : Nat → Int) (r : List Fld) : Nw := ⟨w (fat r 0).U, w (fat r 1).U, (fat r 2).F, (fat r 3).F, w (fat r 4).U⟩
def nwsOf (w : Nat → Int) (l : List (List Fld)) : List Nw := l.map (nwOf w)
def bOf (s : List UInt8) : ByteArray := ⟨s.toArray⟩
def pkOf (w : Nat → Int) (l : List Fld) : Pk :=
  { kind := w (fat l 1).U, frm := w (fat l 2).U, back := w (fat l 3).U, to := w (fat l 4).U, home := w (fat l 5).U, hops := w (fat l 6).U, serial := (fat l 7).U, code := w (fat l 8).U, name := bOf (fat l 11).T, id := w (fat l 9).U, at_ := w (fat l 10).U, body := bOf (fat l 12).T }
def pkZ : Pk := ⟨0, 0, 0, 0, 0, 0, 0, 0, ⟨#[]⟩, 0, 0, ⟨#[]⟩⟩
/-- The message of a kind's fields. -/
def msOf (w : Nat → Int) (k : Nat) (l : List Fld) : Ms :=
  if k = 4 then { kind := 4, nonce := 0, echo := 0, seq := 0, news := [], pk := pkOf w l }
  else { kind := (k : Int), nonce := (fat l 1).U, echo := (fat l 2).U, seq := if k = 1 then 0 else (fat l 3).U, news := if k = 2 then nwsOf w (fat l 4).L else [], pk := pkZ }
def LeI (x : Int) : Prop := 0 ≤ x ∧ x ≤ 2147483647
structure NwLe (n : Nw) : Prop where
  d : LeI n.dest
  k : LeI n.kind
  h : LeI n.home
structure PkLe (p : Pk) : Prop where
  k : LeI p.kind
  f : LeI p.frm
  b : LeI p.back
  t : LeI p.to
  h : LeI p.home
  o : LeI p.hops
  c : LeI p.code
  i : LeI p.id
  a : LeI p.at_
theorem le_num {x : Int} (h : numB x = true) : LeI x := by have := num_le h; exact ⟨by omega, this.2⟩
theorem le_zero {x : Int} (h : (x == 0) = true) : LeI x := by
  have : x = 0 := by simpa using h
  subst this
  exact ⟨by omega, by omega⟩
theorem le_or {x : Int} (h : (x == 0 || numB x) = true) : LeI x := by
  rcases Bool.or_eq_true_iff.1 h with h | h
  · exact le_zero h
  · exact le_num h
theorem news_le {n : Nw} (h : newsB n = true) : NwLe n := by
  unfold newsB at h
  simp only [Bool.and_eq_true] at h
  obtain ⟨⟨h1, h2⟩, h3⟩ := h
  split at h3
  · rename_i hk
    have hk' : n.kind = 1 := by simpa using hk
    unfold noHome at h3
    simp only [Bool.and_eq_true] at h3
    exact ⟨le_num h1, by rw [hk']; exact ⟨by omega, by omega⟩, le_zero h3.2⟩
  · split at h3
    · rename_i hk
      have hk' : n.kind = 2 := by simpa using hk
      refine ⟨le_num h1, by rw [hk']; exact ⟨by omega, by omega⟩, ?_⟩
      split at h3
      · unfold noHome at h3
        simp only [Bool.and_eq_true] at h3
        exact le_zero h3.2
      · unfold itsHome at h3
        split at h3
        · exact le_zero h3
        · simp only [Bool.and_eq_true] at h3
          exact le_num h3.2
    · cases h3
theorem addr_le {p : Pk} (h : hasAddr p = true) : LeI p.id ∧ LeI p.at_ := by
  unfold hasAddr at h
  simp only [Bool.and_eq_true] at h
  exact ⟨le_num h.1, le_or h.2⟩
theorem noaddr_le {p : Pk} (h : noAddr p = true) : LeI p.id ∧ LeI p.at_ := by
  unfold noAddr at h
  simp only [Bool.and_eq_true] at h
  exact ⟨le_zero h.1, le_zero h.2⟩
theorem content_le {p : Pk} (h : contentB p = true) : LeI p.kind ∧ LeI p.code ∧ LeI p.id ∧ LeI p.at_ := by
  unfold contentB at h
  split at h
  · rename_i hk
    have hk' : p.kind = 1 := by simpa using hk
    simp only [Bool.and_eq_true] at h
    have := noaddr_le h.1.2
    exact ⟨by rw [hk']; exact ⟨by omega, by omega⟩, le_zero h.1.1.1, this⟩
  · split at h
    · rename_i hk
      have hk' : p.kind = 2 := by simpa using hk
      simp only [Bool.and_eq_true] at h
      have := addr_le h.1.2
      exact ⟨by rw [hk']; exact ⟨by omega, by omega⟩, le_zero h.1.1.1, this⟩
    · split at h
      · rename_i hk
        have hk' : p.kind = 3 := by simpa using hk
        simp only [Bool.and_eq_true] at h
        have := noaddr_le h.1.2
        exact ⟨by rw [hk']; exact ⟨by omega, by omega⟩, le_zero h.1.1.1, this⟩
      · split at h
        · rename_i hk
          have hk' : p.kind = 4 := by simpa using hk
          simp only [Bool.and_eq_true, Bool.or_eq_true] at h
          refine ⟨by rw [hk']; exact ⟨by omega, by omega⟩, ?_⟩
          rcases h.1.1 with h | h
          · exact ⟨le_zero h.1, addr_le h.2⟩
          · have h1 : p.code = 1 := by simpa using h.1
            exact ⟨by rw [h1]; exact ⟨by omega, by omega⟩, noaddr_le h.2⟩
        · cases h
theorem pack_le {p : Pk} (h : packB p = true) : PkLe p := by
  unfold packB at h
  simp only [Bool.and_eq_true] at h
  obtain ⟨⟨⟨⟨⟨⟨h1, h2⟩, h3⟩, h4⟩, h5⟩, h6⟩, h7⟩ := h
  obtain ⟨c1, c2, c3, c4⟩ := content_le h7
  have h5' := of_decide_eq_true h5
  have h6' := of_decide_eq_true h6
  exact ⟨c1, le_num h1, le_or h2, le_num h3, le_or h4, ⟨h5', by omega⟩, c2, c3, c4⟩
theorem told_le {l : List Nw} (h : toldB l = true) : ∀ n ∈ l, NwLe n := by
  intro n hn
  unfold toldB orderB at h
  simp only [Bool.and_eq_true] at h
  obtain ⟨i, hi, rfl⟩ := List.getElem_of_mem hn
  exact news_le (of_decide_eq_true h.2 i hi).1
theorem wM_of {n : Nat} (h : LeI (wM n)) : wM n = (n : Int) := by
  unfold LeI wM at *
  split at h <;> rename_i hc
  · omega
  · rw [if_neg hc]
theorem wR_of {n : Nat} (h : LeI (wR n)) : wR n = (n : Int) := by
  unfold LeI wR at *
  split at h <;> rename_i hc
  · omega
  · rw [if_neg hc]
theorem wMR {n : Nat} (h : LeI (wM n)) : wM n = wR n := by
  rw [wM_of h]
  have := wM_of h
  unfold LeI at h
  unfold wR; rw [if_neg (by omega)]
theorem wRM {n : Nat} (h : LeI (wR n)) : wM n = wR n := by
  rw [wR_of h]
  have := wR_of h
  unfold LeI at h
  unfold wM; rw [if_neg (by omega)]
theorem nwOf_eq {w v : Nat → Int} (hw : ∀ n, LeI (w n) → w n = v n) {r : List Fld} (h : NwLe (nwOf w r)) : nwOf w r = nwOf v r := by
  unfold nwOf at *
  rw [hw _ h.d, hw _ h.k, hw _ h.h]
theorem pkOf_eq {w v : Nat → Int} (hw : ∀ n, LeI (w n) → w n = v n) {l : List Fld} (h : PkLe (pkOf w l)) : pkOf w l = pkOf v l := by
  unfold pkOf at *
  rw [hw _ h.k, hw _ h.f, hw _ h.b, hw _ h.t, hw _ h.h, hw _ h.o, hw _ h.c, hw _ h.i, hw _ h.a]
theorem nwsOf_eq {w v : Nat → Int} (hw : ∀ n, LeI (w n) → w n = v n) {l : List (List Fld)} (h : ∀ n ∈ nwsOf w l, NwLe n) : nwsOf w l = nwsOf v l := by
  unfold nwsOf at *
  exact List.map_congr_left (fun r hr => nwOf_eq hw (h _ (List.mem_map.2 ⟨r, hr, rfl⟩)))
theorem may_news {m : Ms} (h : mayB m = true) : ∀ n ∈ m.news, NwLe n := by
  have h0 : ((m.news.length : Int) == 0) = true → ∀ n ∈ m.news, NwLe n := fun h n hn => by
    have : m.news = [] := List.eq_nil_of_length_eq_zero (by simpa using h)
    rw [this] at hn; cases hn
  unfold mayB at h
  split at h
  · simp only [Bool.and_eq_true] at h; exact h0 h.1.2
  · split at h
    · simp only [Bool.and_eq_true] at h; exact told_le h.1.2
    · split at h
      · simp only [Bool.and_eq_true] at h; exact h0 h.1.2
      · split at h
        · simp only [Bool.and_eq_true] at h; exact h0 h.1.2
        · cases h
theorem may_pack {m : Ms} (h : mayB m = true) (h4 : m.kind = 4) : packB m.pk = true := by
  unfold mayB at h
  rw [h4] at h
  simp only [show ((4 : Int) == 1) = false by decide, show ((4 : Int) == 2) = false by decide, show ((4 : Int) == 3) = false by decide, show ((4 : Int) == 4) = true by decide, Bool.false_eq_true, if_false, if_true, Bool.and_eq_true] at h
  exact h.2
theorem msOf_eq {w v : Nat → Int} (hw : ∀ n, LeI (w n) → w n = v n) {k : Nat} {l : List Fld} (h : mayB (msOf w k l) = true) : msOf w k l = msOf v k l := by
  have h1 := may_news h
  have h2 := may_pack h
  unfold msOf at *
  split
  · rename_i hk
    rw [if_pos hk] at h2
    rw [pkOf_eq hw (pack_le (h2 rfl))]
  · rename_i hk
    rw [if_neg hk] at h1
    by_cases h2k : k = 2
    · simp only [h2k, if_true] at h1 ⊢
      rw [nwsOf_eq hw h1]
    · simp only [h2k, if_false]
/-- Both messages may be or none, and if they may be, they are one. -/
theorem msOf_may (k : Nat) (l : List Fld) : mayB (msOf wM k l) = mayB (msOf wR k l) := by
  cases h : mayB (msOf wM k l) with
  | true => rw [← msOf_eq (v := wR) (fun n hn => wMR hn) h, h]
  | false =>
    cases h' : mayB (msOf wR k l) with
    | false => rfl
    | true => rw [msOf_eq (v := wM) (fun n hn => (wRM hn).symm) h', h] at h'; cases h'
theorem msOf_one {k : Nat} {l : List Fld} (h : mayB (msOf wR k l) = true) : msOf wR k l = msOf wM k l := msOf_eq (fun n hn => (wRM hn).symm) h

/-- The kinds' items. -/
def itsK (k : Nat) : List It :=
  if k = 1 then [.u, .u, .u] else if k = 2 then [.u, .u, .u, .u, .l [.u, .u, .f, .f, .u]] else if k = 3 then [.u, .u, .u, .u] else [.u, .u, .u, .u, .u, .u, .u, .u, .u, .u, .u, .t, .t]
def shpL (k : Nat) : List UInt8 := (shp (k : Int)).data.toList
theorem shape_u : Go.Wq.shape [117] = some [.u] := by rfl
theorem shape_1 : Go.Wq.shape [117, 117, 117] = some [.u, .u, .u] := by rfl
theorem shape_2 : Go.Wq.shape [117, 117, 117, 117, 40, 117, 117, 102, 102, 117, 41] = some [.u, .u, .u, .u, .l [.u, .u, .f, .f, .u]] := by rfl
theorem shape_3 : Go.Wq.shape [117, 117, 117, 117] = some [.u, .u, .u, .u] := by rfl
theorem shape_4 : Go.Wq.shape [117, 117, 117, 117, 117, 117, 117, 117, 117, 117, 117, 116, 116] = some [.u, .u, .u, .u, .u, .u, .u, .u, .u, .u, .u, .t, .t] := by rfl
theorem shape_k {k : Nat} (h1 : 1 ≤ k) (h4 : k ≤ 4) : Go.Wq.shape (shpL k) = some (itsK k) := by
  obtain rfl | rfl | rfl | rfl : k = 1 ∨ k = 2 ∨ k = 3 ∨ k = 4 := by omega
  · exact shape_1
  · exact shape_2
  · exact shape_3
  · exact shape_4
theorem itsK_u {k : Nat} : ∃ r, itsK k = .u :: r := by
  unfold itsK
  split
  · exact ⟨_, rfl⟩
  · split
    · exact ⟨_, rfl⟩
    · split
      · exact ⟨_, rfl⟩
      · exact ⟨_, rfl⟩
/-- What begins with a number begins with that number. -/
theorem head_first {k : Nat} (h1 : 1 ≤ k) (h4 : k ≤ 4) {s : List UInt8} (h : (decSays (shpL k) s).2.2 = 0) : (headSays [117] s).2.2 = 0 ∧ (fat (headSays [117] s).1 0).U = (fat (decSays (shpL k) s).1 0).U := by
  unfold decSays at h ⊢
  by_cases h0 : (headSays (shpL k) s).2.2 = 0
  · rw [if_neg (by simpa using h0)] at h ⊢
    by_cases h2 : (headSays (shpL k) s).2.1 < s.length
    · rw [if_pos h2] at h; simp at h
    · rw [if_neg h2]
      obtain ⟨its, e1, e2, e3⟩ := headSays_ok h0
      obtain rfl := Option.some.inj ((shape_k h1 h4).symm.trans e1)
      obtain ⟨r, hr⟩ := itsK_u (k := k)
      rw [hr] at e3
      simp only [rdAll] at e3
      cases hx : rdOne s .u 0 with
      | bad e q => rw [hx] at e3; cases e3
      | ok x q =>
        rw [hx] at e3
        simp only [] at e3
        cases hy : rdAll s r q with
        | bad e q => rw [hy] at e3; cases e3
        | ok xs q' =>
          rw [hy] at e3
          simp only [R.ok.injEq] at e3
          have hh : headSays [117] s = ([x], q, 0) := by
            unfold headSays
            rw [shape_u]
            simp only []
            rw [if_neg (by omega)]
            simp only [rdAll, hx]
          rw [hh, ← e3.1]
          exact ⟨rfl, rfl⟩
  · rw [if_pos h0] at h; exact absurd h h0
/-- The message of bytes, if they are one's. -/
def decM (s : List UInt8) : Option Ms :=
  if 65536 < s.length then none
  else if (headSays [117] s).2.2 ≠ 0 then none
  else if (fat (headSays [117] s).1 0).U = 0 ∨ 5 ≤ (fat (headSays [117] s).1 0).U then none
  else if (decSays (shpL (fat (headSays [117] s).1 0).U) s).2.2 ≠ 0 then none
  else if mayB (msOf wM (fat (headSays [117] s).1 0).U (decSays (shpL (fat (headSays [117] s).1 0).U) s).1) then some (msOf wM (fat (headSays [117] s).1 0).U (decSays (shpL (fat (headSays [117] s).1 0).U) s).1) else none
def codeD (s : List UInt8) : Int := if 65536 < s.length then 3 else if (decM s).isSome then 0 else 60
/-- The document's step: a kind. -/
def stepR (k : Nat) (s : List UInt8) : Option Ms :=
  if (decSays (shpL k) s).2.2 ≠ 0 then none else if (fat (decSays (shpL k) s).1 0).U ≠ k then none
  else if mayB (msOf wR k (decSays (shpL k) s).1) then some (msOf wR k (decSays (shpL k) s).1) else none
theorem step_some {k : Nat} (h1 : 1 ≤ k) (h4 : k ≤ 4) {s : List UInt8} (hs : s.length ≤ 65536) {m : Ms} (h : stepR k s = some m) : decM s = some m := by
  unfold stepR at h
  split at h
  · cases h
  · rename_i hd
    have hd' : (decSays (shpL k) s).2.2 = 0 := by omega
    split at h
    · cases h
    · rename_i hu
      have hu' : (fat (decSays (shpL k) s).1 0).U = k := by omega
      obtain ⟨g1, g2⟩ := head_first h1 h4 hd'
      rw [hu'] at g2
      split at h
      · rename_i hm
        have := Option.some.inj h
        unfold decM
        rw [if_neg (by omega), if_neg (by omega), g2, if_neg (by omega), if_neg hd, msOf_may, if_pos hm, ← this, msOf_one hm]
      · cases h
theorem step_none {s : List UInt8} (h : ∀ k, 1 ≤ k → k ≤ 4 → stepR k s = none) : decM s = none := by
  unfold decM
  split
  · rfl
  · split
    · rfl
    · rename_i hs hh
      split
      · rfl
      · rename_i hk
        generalize hkk : (fat (headSays [117] s).1 0).U = k at *
        split
        · rfl
        · rename_i hd
          have := h k (by omega) (by omega)
          unfold stepR at this
          obtain ⟨g1, g2⟩ := head_first (k := k) (by omega) (by omega) (s := s) (by omega)
          rw [if_neg hd, if_neg (by omega)] at this
          rw [msOf_may]
          split
          · rename_i hm
            rw [if_pos hm] at this; cases this
          · rfl
end Go.Mq
end

section
namespace Go.Mq
open Go.Fq Go.Iq Go.Wq Go.RowKit Go.Lib
set_option linter.unusedVariables false
set_option linter.unusedSimpArgs false

theorem w_uOf {x : Int} (h : LeI x) : wM (uOf x) = x := by
  have := uOf_pos x h.1 (by have := h.2; omega)
  unfold wM
  have h2 := h.2
  rw [if_neg (by omega), this]
theorem nw_back {n : Nw} (h : NwLe n) : nwOf wM (nwRow n) = n := by
  have e : nwOf wM (nwRow n) = ⟨wM (uOf n.dest), wM (uOf n.kind), n.dist, n.radius, wM (uOf n.home)⟩ := rfl
  rw [e, w_uOf h.d, w_uOf h.k, w_uOf h.h]
theorem nws_back {l : List Nw} (h : ∀ n ∈ l, NwLe n) : nwsOf wM (nwRows l) = l := by
  unfold nwsOf nwRows
  rw [List.map_map]
  induction l with
  | nil => rfl
  | cons x r ih =>
    simp only [List.map_cons, Function.comp]
    rw [nw_back (h x (by simp))]
    exact congrArg (x :: ·) (ih (fun n hn => h n (List.mem_cons_of_mem _ hn)))
theorem bOf_back (s : ByteArray) : bOf s.data.toList = s := by cases s; rfl
theorem bOf_list (s : List UInt8) : (bOf s).data.toList = s := rfl
theorem pk_back {p : Pk} (h : PkLe p) (k : Fld) : pkOf wM (k :: pkFlds p) = p := by
  have e : pkOf wM (k :: pkFlds p) = { kind := wM (uOf p.kind), frm := wM (uOf p.frm), back := wM (uOf p.back), to := wM (uOf p.to), home := wM (uOf p.home), hops := wM (uOf p.hops), serial := p.serial, code := wM (uOf p.code), name := bOf p.name.data.toList, id := wM (uOf p.id), at_ := wM (uOf p.at_), body := bOf p.body.data.toList } := rfl
  rw [e, w_uOf h.k, w_uOf h.f, w_uOf h.b, w_uOf h.t, w_uOf h.h, w_uOf h.o, w_uOf h.c, w_uOf h.i, w_uOf h.a, bOf_back, bOf_back]
theorem empty_bytes {s : ByteArray} (h : s.toList.isEmpty = true) : s = ⟨#[]⟩ := by
  rw [toList_data] at h
  have : s.data.toList = [] := by simpa using h
  obtain ⟨⟨d⟩⟩ := s
  simp at this
  rw [this]
theorem zero_pk {p : Pk} (h : zeroPk p = true) : p = pkZ := by
  unfold zeroPk at h
  simp only [Bool.and_eq_true, beq_iff_eq] at h
  obtain ⟨⟨⟨⟨⟨⟨⟨⟨⟨⟨⟨h1, h2⟩, h3⟩, h4⟩, h5⟩, h6⟩, h7⟩, h8⟩, h9⟩, h10⟩, h11⟩, h12⟩ := h
  have e1 := empty_bytes h9
  have e2 := empty_bytes h12
  obtain ⟨k, f, b, t, hm, hp, s, c, n, i, a, bd⟩ := p
  simp only at *
  rw [h1, h2, h3, h4, h5, h6, show s = 0 by omega, h8, e1, h10, h11, e2]
  rfl
/-- What a message that may be is like. -/
inductive Ms.Like : Ms → Prop
  | hello {n e : Nat} : 1 ≤ n → Ms.Like ⟨1, n, e, 0, [], pkZ⟩
  | advert {n e s : Nat} {l : List Nw} : 1 ≤ n → 1 ≤ e → 1 ≤ s → toldB l = true → Ms.Like ⟨2, n, e, s, l, pkZ⟩
  | ack {n e s : Nat} : 1 ≤ n → 1 ≤ e → 1 ≤ s → Ms.Like ⟨3, n, e, s, [], pkZ⟩
  | packet {p : Pk} : packB p = true → Ms.Like ⟨4, 0, 0, 0, [], p⟩
theorem may_like {m : Ms} (h : mayB m = true) : m.Like := by
  obtain ⟨k, n, e, s, l, p⟩ := m
  have hn : ((l.length : Int) == 0) = true → l = [] := fun h => List.eq_nil_of_length_eq_zero (by simpa using h)
  unfold mayB at h
  simp only at h
  split at h
  · rename_i hk
    simp only [Bool.and_eq_true, decide_eq_true_eq] at h
    obtain ⟨⟨⟨h1, h2⟩, h3⟩, h4⟩ := h
    obtain rfl : k = 1 := by simpa using hk
    obtain rfl := hn h3
    obtain rfl := zero_pk h4
    obtain rfl : s = 0 := by simpa using h2
    exact .hello (by omega)
  · split at h
    · rename_i hk
      simp only [Bool.and_eq_true, decide_eq_true_eq] at h
      obtain ⟨⟨⟨⟨h1, h2⟩, h3⟩, h4⟩, h5⟩ := h
      obtain rfl : k = 2 := by simpa using hk
      obtain rfl := zero_pk h5
      exact .advert (by omega) (by omega) (by omega) h4
    · split at h
      · rename_i hk
        simp only [Bool.and_eq_true, decide_eq_true_eq] at h
        obtain ⟨⟨⟨⟨h1, h2⟩, h3⟩, h4⟩, h5⟩ := h
        obtain rfl : k = 3 := by simpa using hk
        obtain rfl := zero_pk h5
        obtain rfl := hn h4
        exact .ack (by omega) (by omega) (by omega)
      · split at h
        · rename_i hk
          simp only [Bool.and_eq_true, beq_iff_eq] at h
          obtain ⟨⟨⟨⟨h1, h2⟩, h3⟩, h4⟩, h5⟩ := h
          obtain rfl : k = 4 := by simpa using hk
          obtain rfl := hn (by simpa using h4)
          obtain rfl : n = 0 := by omega
          obtain rfl : e = 0 := by omega
          obtain rfl : s = 0 := by omega
          exact .packet h5
        · cases h
/-- The kind's number. -/
def Ms.kn (m : Ms) : Nat := m.kind.toNat
theorem may_kind {m : Ms} (h : mayB m = true) : 1 ≤ m.kn ∧ m.kn ≤ 4 ∧ m.kind = (m.kn : Int) := by
  cases may_like h <;> exact ⟨show (1 : Nat) ≤ _ from by show (1:Nat) ≤ Int.toNat _; simp, show _ ≤ (4 : Nat) from by show Int.toNat _ ≤ 4; simp, rfl⟩
/-- The message of its fields. -/
theorem ms_back {m : Ms} (h : mayB m = true) : msOf wM m.kn (fldsOf m) = m := by
  cases may_like h with
  | hello h1 => rfl
  | @advert n e s l h1 h2 h3 h4 =>
    have e : msOf wM (Ms.kn ⟨2, n, e, s, l, pkZ⟩) (fldsOf ⟨2, n, e, s, l, pkZ⟩) = ⟨2, n, e, s, nwsOf wM (nwRows l), pkZ⟩ := rfl
    rw [e, nws_back (told_le h4)]
  | ack h1 h2 h3 => rfl
  | @packet p h1 =>
    have e : msOf wM (Ms.kn ⟨4, 0, 0, 0, [], p⟩) (fldsOf ⟨4, 0, 0, 0, [], p⟩) = ⟨4, 0, 0, 0, [], pkOf wM (fU (uOf 4) :: pkFlds p)⟩ := rfl
    rw [e, pk_back (pack_le h1)]
/-- The first field is the kind. -/
theorem flds_kind {m : Ms} (h : mayB m = true) : (fat (fldsOf m) 0).U = m.kn := by
  cases may_like h <;> rfl
/-- Unlike messages have unlike fields, or unlike kinds. -/
theorem flds_inj {a b : Ms} (ha : mayB a = true) (hb : mayB b = true) (h : fldsOf a = fldsOf b) : a = b := by
  have h1 := flds_kind ha
  rw [h, flds_kind hb] at h1
  rw [← ms_back ha, ← ms_back hb, h, h1]

theorem encAll_cons {it : It} {its : List It} {l : List Fld} {a : List UInt8} (h : encAll (it :: its) l = some a) : ∃ x r b c, l = x :: r ∧ encOne it x = some b ∧ encAll its r = some c ∧ a = b ++ c := by
  match l, h with
  | [], h => simp [encAll] at h
  | x :: r, h =>
    simp only [encAll] at h
    cases h1 : encOne it x with
    | none => rw [h1] at h; simp at h
    | some b =>
      cases h2 : encAll its r with
      | none => rw [h1, h2] at h; simp at h
      | some c =>
        rw [h1, h2] at h
        exact ⟨x, r, b, c, rfl, h1, h2, (Option.some.inj h).symm⟩
theorem encAll_end {l : List Fld} {a : List UInt8} (h : encAll [] l = some a) : l = [] := by
  match l, h with
  | [], _ => rfl
  | x :: r, h => simp [encAll] at h
theorem one_u {x : Fld} {a : List UInt8} (h : encOne .u x = some a) : x = fU x.U := by
  simp only [encOne] at h
  split at h
  · rename_i hz; exact only_u hz
  · cases h
theorem one_f {x : Fld} {a : List UInt8} (h : encOne .f x = some a) : x = fF x.F := by
  simp only [encOne] at h
  split at h
  · rename_i hz; exact only_f hz
  · cases h
theorem one_t {x : Fld} {a : List UInt8} (h : encOne .t x = some a) : x = fT x.T := by
  simp only [encOne] at h
  split at h
  · rename_i hz; exact only_t hz
  · cases h
theorem one_l {its : List It} {x : Fld} {a : List UInt8} (h : encOne (.l its) x = some a) : x = fL x.L ∧ ∀ r ∈ x.L, ∃ b, encAll its r = some b := by
  simp only [encOne] at h
  split at h
  · rename_i hz
    refine ⟨only_l hz, ?_⟩
    cases hr : rows (fun r => encAll its r) x.L with
    | none => rw [hr] at h; cases h
    | some c =>
      clear h hz a
      generalize x.L = l at hr ⊢
      induction l generalizing c with
      | nil => intro r hr; cases hr
      | cons y l ih =>
        intro r hm
        simp only [rows] at hr
        cases h1 : encAll its y with
        | none => rw [h1] at hr; simp at hr
        | some b =>
          cases h2 : rows (fun r => encAll its r) l with
          | none => rw [h1, h2] at hr; simp at hr
          | some d =>
            rcases List.mem_cons.1 hm with rfl | hm
            · exact ⟨b, h1⟩
            · exact ih _ h2 r hm
  · cases h
theorem list_u : ∀ {its : List It} (hu : ∀ j ∈ its, j = .u) {q : List It} {l : List Fld} {a : List UInt8}, encAll (its ++ q) l = some a → ∃ (ns : List Nat) (r : List Fld) (b : List UInt8), l = ns.map fU ++ r ∧ ns.length = its.length ∧ encAll q r = some b
  | [], _, q, l, a, h => ⟨[], l, a, rfl, rfl, h⟩
  | j :: its, hu, q, l, a, h => by
    obtain rfl := hu j (by simp)
    obtain ⟨x, r, b, c, rfl, h1, h2, -⟩ := encAll_cons (its := its ++ q) h
    obtain ⟨ns, r', b', rfl, h3, h4⟩ := list_u (its := its) (fun x hx => hu x (List.mem_cons_of_mem _ hx)) h2
    exact ⟨x.U :: ns, r', b', by rw [List.map_cons, ← one_u h1]; rfl, by simp [h3], h4⟩
theorem row_of {r : List Fld} {b : List UInt8} (h : encAll [.u, .u, .f, .f, .u] r = some b) : ∃ d k x y m, r = [fU d, fU k, fF x, fF y, fU m] := by
  obtain ⟨x0, r, _, _, rfl, h0, h, -⟩ := encAll_cons h
  obtain ⟨x1, r, _, _, rfl, h1, h, -⟩ := encAll_cons h
  obtain ⟨x2, r, _, _, rfl, h2, h, -⟩ := encAll_cons h
  obtain ⟨x3, r, _, _, rfl, h3, h, -⟩ := encAll_cons h
  obtain ⟨x4, r, _, _, rfl, h4, h, -⟩ := encAll_cons h
  obtain rfl := encAll_end h
  exact ⟨x0.U, x1.U, x2.F, x3.F, x4.U, by rw [← one_u h0, ← one_u h1, ← one_f h2, ← one_f h3, ← one_u h4]⟩
theorem u_w {n : Nat} (h : LeI (wM n)) : uOf (wM n) = n := by
  have h1 := wM_of h
  rw [h1]
  have h2 := h.1; have h3 := h.2
  rw [h1] at h2 h3
  have := uOf_pos (n : Int) h2 (by omega)
  omega
theorem nwRow_back {r : List Fld} {b : List UInt8} (h : encAll [.u, .u, .f, .f, .u] r = some b) (hl : NwLe (nwOf wM r)) : nwRow (nwOf wM r) = r := by
  obtain ⟨d, k, x, y, m, rfl⟩ := row_of h
  have e : nwOf wM [fU d, fU k, fF x, fF y, fU m] = ⟨wM d, wM k, x, y, wM m⟩ := rfl
  rw [e] at hl ⊢
  unfold nwRow
  have h1 := u_w hl.d; have h2 := u_w hl.k; have h3 := u_w hl.h
  try simp only at h1 h2 h3
  simp only [h1, h2, h3]
theorem nwRows_back {l : List (List Fld)} (h : ∀ r ∈ l, ∃ b, encAll [.u, .u, .f, .f, .u] r = some b) (hl : ∀ n ∈ nwsOf wM l, NwLe n) : nwRows (nwsOf wM l) = l := by
  unfold nwRows nwsOf at *
  rw [List.map_map]
  induction l with
  | nil => rfl
  | cons x r ih =>
    simp only [List.map_cons, Function.comp]
    obtain ⟨b, hb⟩ := h x (by simp)
    rw [nwRow_back hb (hl _ (by simp))]
    exact congrArg (x :: ·) (ih (fun y hy => h y (List.mem_cons_of_mem _ hy)) (fun n hn => hl n (by rw [List.map_cons]; exact List.mem_cons_of_mem _ hn)))
/-- The fields of the message of fields, if that may be. -/
theorem flds_back {k : Nat} (h1 : 1 ≤ k) (h4 : k ≤ 4) {l : List Fld} {a : List UInt8} (h : encAll (itsK k) l = some a) (hk : (fat l 0).U = k) (hm : mayB (msOf wM k l) = true) : fldsOf (msOf wM k l) = l := by
  obtain rfl | rfl | rfl | rfl : k = 1 ∨ k = 2 ∨ k = 3 ∨ k = 4 := by omega
  · obtain ⟨x0, r, _, _, rfl, h0, h, -⟩ := encAll_cons (it := .u) (its := [.u, .u]) h
    obtain ⟨x1, r, _, _, rfl, h1, h, -⟩ := encAll_cons h
    obtain ⟨x2, r, _, _, rfl, h2, h, -⟩ := encAll_cons h
    obtain rfl := encAll_end h
    have hk' : x0.U = 1 := hk
    rw [one_u h0, one_u h1, one_u h2, hk']
    rfl
  · obtain ⟨x0, r, _, _, rfl, h0, h, -⟩ := encAll_cons (it := .u) (its := [.u, .u, .u, .l [.u, .u, .f, .f, .u]]) h
    obtain ⟨x1, r, _, _, rfl, h1, h, -⟩ := encAll_cons h
    obtain ⟨x2, r, _, _, rfl, h2, h, -⟩ := encAll_cons h
    obtain ⟨x3, r, _, _, rfl, h3, h, -⟩ := encAll_cons h
    obtain ⟨x4, r, _, _, rfl, h4, h, -⟩ := encAll_cons h
    obtain rfl := encAll_end h
    have hk' : x0.U = 2 := hk
    obtain ⟨e4, hr⟩ := one_l h4
    have hn := may_news hm
    have e : msOf wM 2 [x0, x1, x2, x3, x4] = ⟨2, x1.U, x2.U, x3.U, nwsOf wM x4.L, pkZ⟩ := rfl
    rw [e] at hn ⊢
    have e2 : fldsOf ⟨2, x1.U, x2.U, x3.U, nwsOf wM x4.L, pkZ⟩ = [fU 2, fU x1.U, fU x2.U, fU x3.U, fL (nwRows (nwsOf wM x4.L))] := rfl
    rw [e2, nwRows_back hr hn, ← e4, ← one_u h1, ← one_u h2, ← one_u h3, ← hk', ← one_u h0]
  · obtain ⟨x0, r, _, _, rfl, h0, h, -⟩ := encAll_cons (it := .u) (its := [.u, .u, .u]) h
    obtain ⟨x1, r, _, _, rfl, h1, h, -⟩ := encAll_cons h
    obtain ⟨x2, r, _, _, rfl, h2, h, -⟩ := encAll_cons h
    obtain ⟨x3, r, _, _, rfl, h3, h, -⟩ := encAll_cons h
    obtain rfl := encAll_end h
    have hk' : x0.U = 3 := hk
    rw [one_u h0, one_u h1, one_u h2, one_u h3, hk']
    rfl
  · obtain ⟨ns, r, b, rfl, hn, h⟩ := list_u (its := [.u, .u, .u, .u, .u, .u, .u, .u, .u, .u, .u]) (q := [.t, .t]) (by simp) (show encAll ([.u, .u, .u, .u, .u, .u, .u, .u, .u, .u, .u] ++ [.t, .t]) l = some a from h)
    obtain ⟨x11, r, _, _, rfl, h11, h, -⟩ := encAll_cons h
    obtain ⟨x12, r, _, _, rfl, h12, h, -⟩ := encAll_cons h
    obtain rfl := encAll_end h
    match ns, hn with
    | [n0, n1, n2, n3, n4, n5, n6, n7, n8, n9, n10], _ =>
    have hk' : n0 = 4 := hk
    have hp := may_pack hm rfl
    have e : msOf wM 4 (List.map fU [n0, n1, n2, n3, n4, n5, n6, n7, n8, n9, n10] ++ [x11, x12]) = ⟨4, 0, 0, 0, [], { kind := wM n1, frm := wM n2, back := wM n3, to := wM n4, home := wM n5, hops := wM n6, serial := n7, code := wM n8, id := wM n9, at_ := wM n10, name := bOf x11.T, body := bOf x12.T }⟩ := rfl
    rw [e] at hp ⊢
    have hl := pack_le hp
    have e1 := u_w hl.k; have e2 := u_w hl.f; have e3 := u_w hl.b; have e4 := u_w hl.t; have e5 := u_w hl.h; have e6 := u_w hl.o; have e8 := u_w hl.c; have e9 := u_w hl.i; have e10 := u_w hl.a
    try simp only at e1 e2 e3 e4 e5 e6 e8 e9 e10
    have e0 : fldsOf ⟨4, 0, 0, 0, [], { kind := wM n1, frm := wM n2, back := wM n3, to := wM n4, home := wM n5, hops := wM n6, serial := n7, code := wM n8, id := wM n9, at_ := wM n10, name := bOf x11.T, body := bOf x12.T }⟩
        = [fU 4, fU (uOf (wM n1)), fU (uOf (wM n2)), fU (uOf (wM n3)), fU (uOf (wM n4)), fU (uOf (wM n5)), fU (uOf (wM n6)), fU n7, fU (uOf (wM n8)), fU (uOf (wM n9)), fU (uOf (wM n10)), fT x11.T, fT x12.T] := rfl
    rw [e0, e1, e2, e3, e4, e5, e6, e8, e9, e10, ← one_t h11, ← one_t h12, hk']
    rfl
end Go.Mq
end
