/- 10.1: numbers of 32 bits as the program makes them. -/
import Derived.Test.YtlfeholphngilaaDoorMd5M
import Derived.WalkKit
import Derived.Laws.BitsAllLaws
namespace Go.Proofs.YtlfeholphngilaaDoor
open Go.RowKit
set_option linter.unusedSimpArgs false
set_option linter.unusedVariables false
set_option maxRecDepth 100000

theorem leN_snoc : ∀ (k x : Nat), leN x (k + 1) = leN x k ++ [UInt8.ofNat (x / 256 ^ k % 256)]
  | 0, x => by simp [leN]
  | k + 1, x => by
    have h := leN_snoc k (x / 256)
    show UInt8.ofNat (x % 256) :: leN (x / 256) (k + 1) = _
    rw [h, Nat.div_div_eq_div_mul, show 256 * 256 ^ k = 256 ^ (k + 1) by rw [Nat.pow_succ, Nat.mul_comm]]
    rfl
theorem padN_not (n j : Nat) (h : j < padN n) : ¬ (n + 1 + j) % 64 = 56 := by unfold padN at h; omega
theorem padN_end (n : Nat) : (n + 1 + padN n) % 64 = 56 := by unfold padN; omega
theorem byte_of_mod (x : Nat) : ((UInt8.ofNat (x % 256)).toNat : Int) = (x : Int) % 256 := by
  have : (UInt8.ofNat (x % 256)).toNat = x % 256 := by
    rw [UInt8.toNat_ofNat']
    exact Nat.mod_mod_of_dvd _ (by decide)
  rw [this]
  omega

def qC (h : Q4) : Array Value := #[.int .u32 (h.a : Int), .int .u32 (h.b : Int), .int .u32 (h.c : Int), .int .u32 (h.d : Int)]
def ltQ (h : Q4) : Prop := (h.a < 4294967296 ∧ h.b < 4294967296) ∧ (h.c < 4294967296 ∧ h.d < 4294967296)
theorem stepsN_lt (l : List UInt8) (o : Nat) {h : Q4} (hh : ltQ h) : ∀ k, ltQ (stepsN l o h k)
  | 0 => hh
  | k + 1 => by
    obtain ⟨⟨h1, h2⟩, h3, h4⟩ := stepsN_lt l o hh k
    exact ⟨⟨h4, Nat.mod_lt _ (by decide)⟩, h2, h3⟩
theorem blocksN_lt (l : List UInt8) : ∀ k, ltQ (blocksN l k)
  | 0 => ⟨⟨show 1732584193 < 4294967296 by decide, show 4023233417 < 4294967296 by decide⟩, show 2562383102 < 4294967296 by decide, show 271733878 < 4294967296 by decide⟩
  | k + 1 => ⟨⟨Nat.mod_lt _ (by decide), Nat.mod_lt _ (by decide)⟩, Nat.mod_lt _ (by decide), Nat.mod_lt _ (by decide)⟩
theorem xor32 {x y : Nat} (hx : x < 4294967296) (hy : y < 4294967296) : x ^^^ y < 4294967296 := Nat.xor_lt_two_pow (n := 32) hx hy
theorem and32 {x y : Nat} (hy : y < 4294967296) : x &&& y < 4294967296 := Nat.lt_of_le_of_lt Nat.and_le_right hy
theorem or32 {x y : Nat} (hx : x < 4294967296) (hy : y < 4294967296) : x ||| y < 4294967296 := Nat.or_lt_two_pow (n := 32) hx hy

theorem fN_lt (i : Nat) {b c d : Nat} (hb : b < 4294967296) (hc : c < 4294967296) (hd : d < 4294967296) : fN i b c d < 4294967296 := by
  unfold fN
  split
  · exact xor32 hd (and32 (xor32 hc hd))
  · split
    · exact xor32 hc (and32 (xor32 hb hc))
    · split
      · exact xor32 (xor32 hb hc) hd
      · exact xor32 hc (or32 hb (xor32 (by decide) hd))
theorem gN_16 (i : Nat) (h : i < 64) : gN i < 16 := by
  unfold gN
  split
  · assumption
  · split
    · exact Nat.mod_lt _ (by decide)
    · split
      · exact Nat.mod_lt _ (by decide)
      · exact Nat.mod_lt _ (by decide)
theorem f1 (i : Nat) {b c d : Nat} (h : i < 16) (hb : b < 4294967296) (hc : c < 4294967296) (hd : d < 4294967296) : bits BinOp.xor IntKind.u32 (d : Int) (bits BinOp.and IntKind.u32 (b : Int) (bits BinOp.xor IntKind.u32 (c : Int) (d : Int))) = (fN i b c d : Nat) := by
  rw [u32_xor_nat c d hc hd, u32_and_nat b _ hb (xor32 hc hd), u32_xor_nat d _ hd (and32 (xor32 hc hd))]
  unfold fN
  rw [if_pos h]
theorem f2 (i : Nat) {b c d : Nat} (h0 : ¬ i < 16) (h : i < 32) (hb : b < 4294967296) (hc : c < 4294967296) (hd : d < 4294967296) : bits BinOp.xor IntKind.u32 (c : Int) (bits BinOp.and IntKind.u32 (d : Int) (bits BinOp.xor IntKind.u32 (b : Int) (c : Int))) = (fN i b c d : Nat) := by
  rw [u32_xor_nat b c hb hc, u32_and_nat d _ hd (xor32 hb hc), u32_xor_nat c _ hc (and32 (xor32 hb hc))]
  unfold fN
  rw [if_neg h0, if_pos h]
theorem f3 (i : Nat) {b c d : Nat} (h0 : ¬ i < 16) (h1 : ¬ i < 32) (h : i < 48) (hb : b < 4294967296) (hc : c < 4294967296) (hd : d < 4294967296) : bits BinOp.xor IntKind.u32 (bits BinOp.xor IntKind.u32 (b : Int) (c : Int)) (d : Int) = (fN i b c d : Nat) := by
  rw [u32_xor_nat b c hb hc, u32_xor_nat _ d (xor32 hb hc) hd]
  unfold fN
  rw [if_neg h0, if_neg h1, if_pos h]
theorem f4 (i : Nat) {b c d : Nat} (h0 : ¬ i < 16) (h1 : ¬ i < 32) (h2 : ¬ i < 48) (hb : b < 4294967296) (hc : c < 4294967296) (hd : d < 4294967296) : bits BinOp.xor IntKind.u32 (c : Int) (bits BinOp.or IntKind.u32 (b : Int) (bits BinOp.xor IntKind.u32 4294967295 (d : Int))) = (fN i b c d : Nat) := by
  rw [show (4294967295 : Int) = ((4294967295 : Nat) : Int) from rfl, u32_xor_nat 4294967295 d (by decide) hd, u32_or_nat b _ hb (xor32 (by decide) hd), u32_xor_nat c _ hc (or32 hb (xor32 (by decide) hd))]
  unfold fN
  rw [if_neg h0, if_neg h1, if_neg h2]

theorem sinN_lt : ∀ i : Nat, i < 64 → sinN i < 4294967296 := by decide
theorem turnN_ok : ∀ i : Nat, i < 64 → 4 ≤ turnN i ∧ turnN i ≤ 23 := by decide
theorem rot32 (Z T : Nat) (h : Z < 4294967296) : bits BinOp.or IntKind.u32 ((Z : Int) * 2 ^ T % 4294967296) ((Z : Int) / 2 ^ (32 - T)) = ((rotN Z T : Nat) : Int) := by
  have e1 : (Z : Int) * 2 ^ T % 4294967296 = ((Z * 2 ^ T % 4294967296 : Nat) : Int) := by simp
  have e2 : (Z : Int) / 2 ^ (32 - T) = ((Z / 2 ^ (32 - T) : Nat) : Int) := by simp
  rw [e1, e2, u32_or_nat _ _ (Nat.mod_lt _ (by decide)) (Nat.lt_of_le_of_lt (Nat.div_le_self _ _) h)]
  rfl
theorem mod32 (x y : Nat) : ((x : Int) + (y : Int)) % 4294967296 = (((x + y) % 4294967296 : Nat) : Int) := by omega

def qN (h : Q4) (t : Nat) : Nat := if t = 0 then h.a else if t = 1 then h.b else if t = 2 then h.c else h.d
def mixC (q x : Q4) (t : Nat) : Array Value := #[.int .u32 ((if 0 < t then (q.a + x.a) % 4294967296 else q.a : Nat) : Int), .int .u32 ((if 1 < t then (q.b + x.b) % 4294967296 else q.b : Nat) : Int), .int .u32 ((if 2 < t then (q.c + x.c) % 4294967296 else q.c : Nat) : Int), .int .u32 ((if 3 < t then (q.d + x.d) % 4294967296 else q.d : Nat) : Int)]
theorem four {t : Nat} (h : t < 4) : t = 0 ∨ t = 1 ∨ t = 2 ∨ t = 3 := by omega
theorem mix_zero (q x : Q4) : mixC q x 0 = qC q := rfl
theorem mix_four (q x : Q4) : mixC q x 4 = qC (addN q x) := rfl
theorem mix_at (q x : Q4) (t : Nat) (h : t < 4) : (mixC q x t)[t]? = some (.int .u32 (qN q t : Int)) := by
  rcases four h with rfl | rfl | rfl | rfl <;> rfl
theorem qC_at (q : Q4) (t : Nat) (h : t < 4) : (qC q)[t]? = some (.int .u32 (qN q t : Int)) := by
  rcases four h with rfl | rfl | rfl | rfl <;> rfl
theorem mix_set (q x : Q4) (t : Nat) (h : t < 4) : (mixC q x t).setIfInBounds t (.int .u32 (((qN q t + qN x t) % 4294967296 : Nat) : Int)) = mixC q x (t + 1) := by
  rcases four h with rfl | rfl | rfl | rfl <;> rfl
theorem qN_lt {q : Q4} (h : ltQ q) (t : Nat) : qN q t < 4294967296 := by
  obtain ⟨⟨h1, h2⟩, h3, h4⟩ := h
  unfold qN
  split
  · exact h1
  · split
    · exact h2
    · split
      · exact h3
      · exact h4
/-- The first t numbers as bytes. -/
def outK (q : Q4) : Nat → List UInt8
  | 0 => []
  | t + 1 => outK q t ++ leN (qN q t) 4
theorem outK_four (q : Q4) : outK q 4 = outN q := by
  show ((([] ++ leN q.a 4) ++ leN q.b 4) ++ leN q.c 4) ++ leN q.d 4 = _
  unfold outN
  simp only [List.nil_append, List.append_assoc]
theorem outK_len (q : Q4) : ∀ t, (outK q t).length = 4 * t
  | 0 => rfl
  | t + 1 => by
    show (outK q t ++ leN (qN q t) 4).length = _
    rw [List.length_append, outK_len q t, leN_len]
    omega

theorem ba_app (A : List UInt8) (b : UInt8) : (⟨A.toArray⟩ : ByteArray) ++ ⟨#[b]⟩ = ⟨(A ++ [b]).toArray⟩ := by
  apply ByteArray.ext
  simp [ByteArray.data_append]

end Go.Proofs.YtlfeholphngilaaDoor
