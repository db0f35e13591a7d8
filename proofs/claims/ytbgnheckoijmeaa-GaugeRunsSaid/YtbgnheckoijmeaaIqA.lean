/- Numbers of 64 bits that are stirred, sums of bytes, names: the plain functions. -/
import Derived.IntWalk
import Derived.Laws.Bits64
namespace Go.Iq

def letB (c : Int) : Bool := decide (97 ≤ c ∧ c ≤ 122)
def digB (c : Int) : Bool := decide (48 ≤ c ∧ c ≤ 57)
def okB (c : Int) : Bool := letB c || digB c || decide (c = 45)
/-- A name that may be. -/
def nameB (l : List UInt8) : Bool := decide (1 ≤ l.length ∧ l.length ≤ 32) && l.all (fun c => okB (c.toNat : Int)) && letB ((l.getD 0 0).toNat : Int) && !decide (((l.getD (l.length - 1) 0).toNat : Int) = 45)
/-- CheckName's answer. -/
def nameE (l : List UInt8) : Int := if nameB l then 0 else 21
/-- CheckId's answer. -/
def idB (n : Int) : Bool := decide (1 ≤ n ∧ n ≤ 2147483647)
def idE (n : Int) : Int := if idB n then 0 else 20

def step1 (x : Int) : Int := IntKind.u64.wrap (bits .xor .u64 x (x / 1073741824) * 13787848793156543929)
def step2 (x : Int) : Int := IntKind.u64.wrap (bits .xor .u64 x (x / 134217728) * 10723151780598845931)
def step3 (x : Int) : Int := bits .xor .u64 x (x / 2147483648)
/-- Mix. -/
def mixI (x : Int) : Int := step3 (step2 (step1 x))
def sumStep (s : Int) (c : UInt8) : Int := IntKind.u64.wrap (bits .xor .u64 s (c.toNat : Int) * 1099511628211)
/-- Sum. -/
def sumI (l : List UInt8) : Int := l.foldl sumStep 14695981039346656037
def U64 (x : Int) : Prop := 0 ≤ x ∧ x < 18446744073709551616

theorem wrap_bd (x : Int) : U64 (IntKind.u64.wrap x) := by rw [IntKind.wrap_u64]; unfold U64; omega
theorem xor_bd (a b : Int) : U64 (bits .xor .u64 a b) := by
  show U64 (IntKind.u64.wrap _)
  exact wrap_bd _
theorem mixI_bd (x : Int) : U64 (mixI x) := xor_bd _ _
theorem sumI_bd (l : List UInt8) : U64 (sumI l) := by
  unfold sumI
  have : ∀ (l : List UInt8) (s : Int), U64 s → U64 (l.foldl sumStep s) := by
    intro l
    induction l with
    | nil => exact fun _ h => h
    | cons c r ih => exact fun s _ => ih _ (wrap_bd _)
  exact this l _ (by unfold U64; omega)
theorem sumI_snoc (l : List UInt8) (c : UInt8) : sumI (l ++ [c]) = sumStep (sumI l) c := by simp [sumI]
theorem sumStep_eq (s : Int) (c : UInt8) : sumStep s c = IntKind.u64.wrap (bits .xor .u64 s (c.toNat : Int) * 1099511628211) := rfl
theorem take_snoc (s : ByteArray) (k : Nat) (h : k < s.size) : s.data.toList.take (k + 1) = s.data.toList.take k ++ [s[k]] := by
  rw [List.take_succ_eq_append_getElem (by simpa using h)]; rfl
theorem wrap_byte (c : UInt8) : IntKind.u64.wrap (c.toNat : Int) = (c.toNat : Int) := by
  rw [IntKind.wrap_u64]; have := c.toNat_lt; omega
theorem sumI_step (s : ByteArray) (k : Nat) (h : k < s.size) : sumI (s.data.toList.take (k + 1)) = IntKind.u64.wrap (bits .xor .u64 (sumI (s.data.toList.take k)) (IntKind.u64.wrap (s[k].toNat : Int)) * 1099511628211) := by
  rw [take_snoc s k h, sumI_snoc, sumStep_eq, wrap_byte]

/-- The score of a router and a name's sum. -/
def scoreI (id sum : Int) : Int := mixI (bits .xor .u64 sum (mixI id))
theorem scoreI_bd (id sum : Int) : U64 (scoreI id sum) := mixI_bd _

theorem getD_size (s : ByteArray) (k : Nat) (h : k < s.size) : s.data.toList.getD k 0 = s[k] := by
  rw [List.getD_eq_getElem?_getD, List.getElem?_eq_getElem (by simpa using h)]; rfl
theorem all_take (s : ByteArray) (k : Nat) (h : k < s.size) : (s.data.toList.take (k + 1)).all (fun c => okB (c.toNat : Int)) = ((s.data.toList.take k).all (fun c => okB (c.toNat : Int)) && okB (s[k].toNat : Int)) := by
  rw [take_snoc s k h, List.all_append]; simp
theorem all_bad (s : ByteArray) (k : Nat) (h : k < s.size) (hb : okB (s[k].toNat : Int) = false) : nameB s.data.toList = false := by
  unfold nameB
  have : s.data.toList.all (fun c => okB (c.toNat : Int)) = false := by
    rw [List.all_eq_false]
    exact ⟨s[k], by rw [← getD_size s k h, List.getD_eq_getElem?_getD, List.getElem?_eq_getElem (by simpa using h)]; exact List.getElem_mem _, by simp [hb]⟩
  rw [this]; simp
theorem name_len (s : ByteArray) (h : s.size < 1 ∨ 32 < s.size) : nameB s.data.toList = false := by
  unfold nameB
  have : decide (1 ≤ s.data.toList.length ∧ s.data.toList.length ≤ 32) = false := by
    rw [decide_eq_false_iff_not]
    have : s.data.toList.length = s.size := by simp
    omega
  rw [this]; simp
/-- What is told of a name behind its bytes. -/
theorem name_ends (s : ByteArray) (h1 : 0 < s.size) (h2 : s.size ≤ 32) : nameB s.data.toList = (s.data.toList.all (fun c => okB (c.toNat : Int)) && letB (s[0].toNat : Int) && !decide ((s[s.size - 1].toNat : Int) = 45)) := by
  unfold nameB
  have e : s.data.toList.length = s.size := by simp
  rw [e, show decide (1 ≤ s.size ∧ s.size ≤ 32) = true by simp; omega, getD_size s 0 h1, getD_size s (s.size - 1) (by omega)]
  simp
theorem okB_let {c : Int} (h : letB c = true) : okB c = true := by unfold okB; rw [h]; rfl
theorem okB_dig {c : Int} (h : digB c = true) : okB c = true := by unfold okB; rw [h]; simp
theorem okB_dash {c : Int} (h : (c != 45) = false) : okB c = true := by unfold okB; simp at h; simp [h]
theorem okB_no {c : Int} (h1 : ¬ letB c = true) (h2 : ¬ digB c = true) (h3 : (c != 45) = true) : okB c = false := by
  unfold okB; simp at h3; simp [h1, h2, h3]
theorem ends_yes {c : Int} (h : (c == 45) = true) : decide (c = 45) = true := by simpa using h
theorem ends_no {c : Int} (h : (c == 45) = false) : decide (c = 45) = false := by simpa using h
theorem nameE_no {l : List UInt8} (h : nameB l = false) : nameE l = 21 := by unfold nameE; rw [h]; rfl
theorem nameE_yes {l : List UInt8} (h : nameB l = true) : nameE l = 0 := by unfold nameE; rw [h]; rfl
theorem idE_no {n : Int} (h : idB n = false) : idE n = 20 := by unfold idE; rw [h]; rfl
theorem idE_yes {n : Int} (h : idB n = true) : idE n = 0 := by unfold idE; rw [h]; rfl
theorem idB_iff {n : Int} : idB n = true ↔ 1 ≤ n ∧ n ≤ 2147483647 := by unfold idB; simp

/-- wantsMore, of two numbers with their scores. -/
def wantC (a x b y : Int) : Int := if y < x then -1 else if x < y then 1 else a - b
theorem wantC_gt {a x b y : Int} (h : y < x) : wantC a x b y = -1 := by unfold wantC; rw [if_pos h]
theorem wantC_lt {a x b y : Int} (h : x < y) : wantC a x b y = 1 := by unfold wantC; rw [if_neg (by omega), if_pos h]
theorem wantC_eq {a x b y : Int} (h1 : ¬ y < x) (h2 : ¬ x < y) : wantC a x b y = a - b := by unfold wantC; rw [if_neg h1, if_neg h2]
theorem wantC_neg (a x b y : Int) : wantC a x b y < 0 ↔ (y < x ∨ (x = y ∧ a < b)) := by
  unfold wantC
  split
  · omega
  · split <;> omega
/-- more: does a want a name more than b? -/
def moreB (sum a b : Int) : Bool := decide (scoreI b sum < scoreI a sum ∨ (scoreI a sum = scoreI b sum ∧ a < b))
theorem wantC_more (s a b : Int) : decide (wantC a (scoreI a s) b (scoreI b s) < 0) = moreB s a b := by
  unfold moreB
  rw [decide_eq_decide]
  exact wantC_neg _ _ _ _
end Go.Iq
