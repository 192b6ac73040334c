/- Addresses as texts, and their order: plain lists, nothing of the program. -/
import Derived.Lib.Bytealg
import GoSem.Op.String
namespace Go.Proofs.Ytdceggekhhflgaa

/-- A hexadecimal digit. -/
def hexc (n : Nat) : UInt8 := if n < 10 then UInt8.ofNat (48 + n) else UInt8.ofNat (87 + n)

/-- The two digits of a byte. -/
def hex2 (n : Nat) : List UInt8 := [hexc (n / 16), hexc (n % 16)]

/-- The text of the first bytes of an address, up to a place. -/
def addrTo (x : Nat → Nat) : Nat → List UInt8
  | 0 => []
  | k + 1 => addrTo x k ++ ((if k = 0 then [] else [58]) ++ hex2 (x k))

/-- The text of a list of bytes, a colon between each two. -/
def txt : List Nat → List UInt8
  | [] => []
  | [a] => hex2 a
  | a :: b :: r => hexc (a / 16) :: hexc (a % 16) :: 58 :: txt (b :: r)

/-- The six bytes of an address. -/
def six (x : Nat → Nat) : List Nat := [x 0, x 1, x 2, x 3, x 4, x 5]

/-- The text of an address. -/
def addrL (x : Nat → Nat) : List UInt8 := addrTo x 6

theorem addrL_txt (x : Nat → Nat) : addrL x = txt (six x) := by simp [addrL, addrTo, txt, six, hex2]

theorem addrL_length (x : Nat → Nat) : (addrL x).length = 17 := by simp [addrL, addrTo, hex2]

theorem hexc_inj : ∀ a, a < 16 → ∀ b, b < 16 → hexc a = hexc b → a = b := by decide

theorem hexc_lt : ∀ a, a < 16 → ∀ b, b < 16 → (decide (hexc a < hexc b) = decide (a < b)) := by decide

theorem hexc_beq : ∀ a, a < 16 → ∀ b, b < 16 → ((hexc a == hexc b) = decide (a = b)) := by decide

theorem txt_inj : ∀ (u v : List Nat), u.length = v.length → (∀ a ∈ u, a < 256) → (∀ a ∈ v, a < 256) → txt u = txt v → u = v
  | [], [], _, _, _, _ => rfl
  | [], _ :: _, h, _, _, _ => by simp at h
  | _ :: _, [], h, _, _, _ => by simp at h
  | [a], [b], _, hu, hv, h => by
    have ha := hu a (by simp)
    have hb := hv b (by simp)
    simp only [txt, hex2, List.cons.injEq, and_true] at h
    have h1 := hexc_inj _ (by omega) _ (by omega) h.1
    have h2 := hexc_inj _ (by omega) _ (by omega) h.2
    congr 1
    omega
  | [_], _ :: _ :: _, h, _, _, _ => by simp at h
  | _ :: _ :: _, [_], h, _, _, _ => by simp at h
  | a :: a' :: u, b :: b' :: v, hl, hu, hv, h => by
    have ha := hu a (by simp)
    have hb := hv b (by simp)
    simp only [txt, List.cons.injEq, true_and] at h
    have h1 := hexc_inj _ (by omega) _ (by omega) h.1
    have h2 := hexc_inj _ (by omega) _ (by omega) h.2.1
    have h3 := txt_inj (a' :: u) (b' :: v) (by simpa using hl) (fun c hc => hu c (List.mem_cons_of_mem _ hc)) (fun c hc => hv c (List.mem_cons_of_mem _ hc)) h.2.2
    rw [h3]
    congr 1
    omega

theorem byte_lt (a b : Nat) (ha : a < 256) (hb : b < 256) : decide (UInt8.ofNat a < UInt8.ofNat b) = decide (a < b) := by
  simp [UInt8.lt_iff_toNat_lt, Nat.mod_eq_of_lt ha, Nat.mod_eq_of_lt hb]

theorem byte_beq (a b : Nat) (ha : a < 256) (hb : b < 256) : (UInt8.ofNat a == UInt8.ofNat b) = decide (a = b) := by
  rw [Bool.eq_iff_iff]
  simp only [beq_iff_eq, decide_eq_true_eq]
  constructor
  · intro h
    have := congrArg UInt8.toNat h
    simpa [Nat.mod_eq_of_lt ha, Nat.mod_eq_of_lt hb] using this
  · rintro rfl; rfl

/-- Texts of bytes are in the order of the bytes. -/
theorem txt_less : ∀ (u v : List Nat), u.length = v.length → (∀ a ∈ u, a < 256) → (∀ a ∈ v, a < 256) → Op.bytesLess (txt u) (txt v) = Op.bytesLess (u.map UInt8.ofNat) (v.map UInt8.ofNat)
  | [], [], _, _, _ => rfl
  | [], _ :: _, h, _, _ => by simp at h
  | _ :: _, [], h, _, _ => by simp at h
  | [a], [b], _, hu, hv => by
    have ha := hu a (by simp)
    have hb := hv b (by simp)
    simp only [txt, hex2, List.map, Op.bytesLess, Bool.and_false, Bool.or_false, hexc_lt _ (show a / 16 < 16 by omega) _ (show b / 16 < 16 by omega), hexc_lt _ (show a % 16 < 16 by omega) _ (show b % 16 < 16 by omega),
      hexc_beq _ (show a / 16 < 16 by omega) _ (show b / 16 < 16 by omega), byte_lt a b ha hb]
    rw [Bool.eq_iff_iff]
    simp
    omega
  | [_], _ :: _ :: _, h, _, _ => by simp at h
  | _ :: _ :: _, [_], h, _, _ => by simp at h
  | a :: a' :: u, b :: b' :: v, hl, hu, hv => by
    have ha := hu a (by simp)
    have hb := hv b (by simp)
    have h3 := txt_less (a' :: u) (b' :: v) (by simpa using hl) (fun c hc => hu c (List.mem_cons_of_mem _ hc)) (fun c hc => hv c (List.mem_cons_of_mem _ hc))
    simp only [txt, List.map] at h3 ⊢
    rw [Op.bytesLess, Op.bytesLess, Op.bytesLess, Op.bytesLess, h3, hexc_lt _ (show a / 16 < 16 by omega) _ (show b / 16 < 16 by omega), hexc_lt _ (show a % 16 < 16 by omega) _ (show b % 16 < 16 by omega),
      hexc_beq _ (show a / 16 < 16 by omega) _ (show b / 16 < 16 by omega), hexc_beq _ (show a % 16 < 16 by omega) _ (show b % 16 < 16 by omega), byte_lt a b ha hb, byte_beq a b ha hb]
    generalize Op.bytesLess (UInt8.ofNat a' :: _) _ = q
    cases q <;> rw [Bool.eq_iff_iff] <;> simp <;> omega

theorem six_lt {x : Nat → Nat} (h : ∀ i, x i < 256) : ∀ a ∈ six x, a < 256 := by
  intro a ha
  simp only [six, List.mem_cons, List.not_mem_nil, or_false] at ha
  rcases ha with rfl | rfl | rfl | rfl | rfl | rfl <;> exact h _

theorem addrL_inj {x y : Nat → Nat} (hx : ∀ i, x i < 256) (hy : ∀ i, y i < 256) (h : addrL x = addrL y) : six x = six y :=
  txt_inj _ _ rfl (six_lt hx) (six_lt hy) (by rw [← addrL_txt, ← addrL_txt, h])

theorem addrL_less {x y : Nat → Nat} (hx : ∀ i, x i < 256) (hy : ∀ i, y i < 256) : Op.bytesLess (addrL x) (addrL y) = Op.bytesLess ((six x).map UInt8.ofNat) ((six y).map UInt8.ofNat) := by
  rw [addrL_txt, addrL_txt]
  exact txt_less _ _ rfl (six_lt hx) (six_lt hy)

/-- Below zero is how 'compareBytes' says that the first list is less. -/
theorem compare_less : ∀ (a b : List UInt8), decide (Lib.compareBytes a b < 0) = Op.bytesLess a b
  | [], [] => by simp [Lib.compareBytes, Op.bytesLess]
  | [], _ :: _ => by simp [Lib.compareBytes, Op.bytesLess]
  | _ :: _, [] => by simp [Lib.compareBytes, Op.bytesLess]
  | a :: x, b :: y => by
    have ih := compare_less x y
    unfold Lib.compareBytes Op.bytesLess
    by_cases h1 : a < b
    · simp [h1]
    · by_cases h2 : b < a
      · have h3 : ¬ a = b := by rintro rfl; exact h1 h2
        simp [h1, h2, h3]
      · have h3 : a = b := by
          rw [UInt8.lt_iff_toNat_lt] at h1 h2
          exact UInt8.toNat_inj.1 (by omega)
        subst h3
        simp [h1, ih]

/-- The order of lists of one length: just one of less, equal, greater. -/
theorem less_irrefl : ∀ a : List UInt8, Op.bytesLess a a = false
  | [] => rfl
  | a :: x => by simp [Op.bytesLess, less_irrefl x, UInt8.lt_irrefl]

theorem less_asymm : ∀ a b : List UInt8, Op.bytesLess a b = true → Op.bytesLess b a = false
  | _, [], h => by simp [Op.bytesLess] at h
  | [], _ :: _, _ => by simp [Op.bytesLess]
  | a :: x, b :: y, h => by
    have ih := less_asymm x y
    simp only [Op.bytesLess, Bool.or_eq_true, decide_eq_true_eq, Bool.and_eq_true, beq_iff_eq, Bool.or_eq_false_iff, decide_eq_false_iff_not, Bool.and_eq_false_iff] at h ⊢
    rcases h with h | ⟨rfl, h⟩
    · refine ⟨UInt8.lt_asymm h, Or.inl ?_⟩
      rw [beq_eq_false_iff_ne]; rintro rfl; exact UInt8.lt_irrefl _ h
    · exact ⟨UInt8.lt_irrefl _, Or.inr (ih h)⟩

theorem less_total : ∀ a b : List UInt8, a.length = b.length → Op.bytesLess a b = false → Op.bytesLess b a = false → a = b
  | [], [], _, _, _ => rfl
  | _ :: _, [], h, _, _ => by simp at h
  | [], _ :: _, h, _, _ => by simp at h
  | a :: x, b :: y, hl, h1, h2 => by
    simp only [Op.bytesLess, Bool.or_eq_false_iff, decide_eq_false_iff_not, Bool.and_eq_false_iff, beq_eq_false_iff_ne] at h1 h2
    have e : a = b := by
      have q1 := h1.1; have q2 := h2.1
      rw [UInt8.lt_iff_toNat_lt] at q1 q2
      exact UInt8.toNat_inj.1 (by omega)
    subst e
    rw [less_total x y (by simpa using hl) (h1.2.resolve_left fun q => q rfl) (h2.2.resolve_left fun q => q rfl)]

theorem less_trans : ∀ a b c : List UInt8, Op.bytesLess a b = true → Op.bytesLess b c = true → Op.bytesLess a c = true
  | _, [], _, h, _ => by simp [Op.bytesLess] at h
  | _, _ :: _, [], _, h => by simp [Op.bytesLess] at h
  | [], _ :: _, _ :: _, _, _ => by simp [Op.bytesLess]
  | a :: x, b :: y, c :: z, h1, h2 => by
    have ih := less_trans x y z
    simp only [Op.bytesLess, Bool.or_eq_true, decide_eq_true_eq, Bool.and_eq_true, beq_iff_eq] at h1 h2 ⊢
    rcases h1 with h1 | ⟨rfl, h1⟩
    · rcases h2 with h2 | ⟨rfl, h2⟩
      · exact Or.inl (UInt8.lt_trans h1 h2)
      · exact Or.inl h1
    · rcases h2 with h2 | ⟨rfl, h2⟩
      · exact Or.inl h2
      · exact Or.inr ⟨rfl, ih h1 h2⟩

end Go.Proofs.Ytdceggekhhflgaa
