/- Lessons, plainly. -/
import Derived.Test.YtdceggekhhflgaaEnM
import Derived.WalkKit
import Derived.WalkSpells
import Derived.WalkLawsBesides
namespace Go.Proofs.Ytdceggekhhflgaa
open Go.RowKit
attribute [local go_sem ↓] Go.wp_at_zero Go.wp_at_succ
set_option linter.unusedSimpArgs false
set_option linter.unusedVariables false
set_option maxRecDepth 100000

/-- Some number below n. -/
def pickN (a : Int) (n : Nat) : Nat := (IntKind.u64.wrap a % (n : Int)).toNat

theorem pickN_lt (a : Int) (n : Nat) (h : 1 ≤ n) : pickN a n < n := by
  have hw := wrap_u64_nonneg a
  have h0 := Int.emod_nonneg (IntKind.u64.wrap a) (show (n : Int) ≠ 0 by omega)
  have h2 := Int.emod_lt_of_pos (IntKind.u64.wrap a) (show (0 : Int) < n by omega)
  unfold pickN
  omega

theorem pickN_val (a : Int) (n : Nat) (h1 : 1 ≤ n) (hn : n ≤ 281474976710656) : wrap64 ((IntKind.u64.wrap a).tmod (n : Int)) = (pickN a n : Int) := by
  have hw := wrap_u64_nonneg a
  have e : (IntKind.u64.wrap a).tmod (n : Int) = IntKind.u64.wrap a % (n : Int) := Int.tmod_eq_emod_of_nonneg hw
  have h0 := Int.emod_nonneg (IntKind.u64.wrap a) (show (n : Int) ≠ 0 by omega)
  have h2 := Int.emod_lt_of_pos (IntKind.u64.wrap a) (show (0 : Int) < n by omega)
  unfold pickN
  rw [e]
  generalize IntKind.u64.wrap a % (n : Int) = z at h0 h2
  unfold wrap64
  omega

/-- One of some addresses. -/
def adF (n : Int) : Nat → Nat
  | 0 => 2
  | 4 => pickN n 60 / 8
  | 5 => pickN n 60
  | _ => 0

theorem adF_lt (n : Int) : ∀ i, adF n i < 256 := by
  have h := pickN_lt n 60 (by decide)
  intro i
  unfold adF
  split <;> omega

theorem adF_even (n : Int) : adF n 0 % 2 ≠ 1 := show (2 : Nat) % 2 ≠ 1 from by decide

structure Le where
  vid : Int
  addr : Int
  port : Int
  after : Int

instance : Inhabited Le := ⟨⟨0, 0, 0, 0⟩⟩

def zLe : Le := ⟨0, 0, 0, 0⟩

/-- A table behind lessons, and the time then. -/
def stepM (s : List Ent × Int) (x : Le) : List Ent × Int := (learnM 100 s.1 (1 + pickN x.vid 3) (adF x.addr) (pickN x.port 8) (s.2 + pickN x.after 30), s.2 + pickN x.after 30)

def schoolM (l : List Le) : List Ent × Int := l.foldl stepM ([], 0)

theorem school_snoc (l : List Le) (x : Le) : schoolM (l ++ [x]) = stepM (schoolM l) x := by simp [schoolM]

theorem school_take {l : List Le} {k : Nat} {x : Le} (h : l[k]? = some x) : schoolM (l.take (k + 1)) = stepM (schoolM (l.take k)) x := by
  rw [List.take_add_one, h]
  exact school_snoc _ _

theorem step_kept : ∀ (l : List Le) (s : List Ent × Int) (b : Nat), Kept s.1 s.2 → 0 ≤ s.2 → s.2 ≤ b → b + 30 * l.length ≤ 60000 → Kept (l.foldl stepM s).1 (l.foldl stepM s).2 ∧ 0 ≤ (l.foldl stepM s).2 ∧ (l.foldl stepM s).2 ≤ b + 30 * l.length
  | [], s, b, h1, h2, h3, _ => ⟨h1, h2, by simpa using h3⟩
  | x :: l, s, b, h1, h2, h3, h4 => by
    have p1 := pickN_lt x.port 8 (by decide)
    have p2 := pickN_lt x.after 30 (by decide)
    rw [List.length_cons] at h4 ⊢
    have hk : Kept (stepM s x).1 (stepM s x).2 := h1.learn 100 _ _ _ _ (adF_lt _) (by omega) (by omega) (by omega) (by omega) (by omega)
    have e2 : (stepM s x).2 = s.2 + pickN x.after 30 := rfl
    obtain ⟨r1, r2, r3⟩ := step_kept l (stepM s x) (b + 30) hk (by rw [e2]; omega) (by rw [e2]; omega) (by omega)
    exact ⟨r1, r2, by rw [List.foldl_cons]; omega⟩

theorem school_kept (l : List Le) (h : l.length ≤ 1000) : Kept (schoolM l).1 (schoolM l).2 ∧ 0 ≤ (schoolM l).2 ∧ (schoolM l).2 ≤ 30 * l.length := by
  have := step_kept l ([], 0) 0 (Kept.nil 0) (Int.le_refl _) (by simp) (by omega)
  unfold schoolM
  exact ⟨this.1, this.2.1, by have := this.2.2; omega⟩

theorem school_nil {l : List Le} (h : l = []) : (schoolM l).1 = [] := by subst h; rfl

theorem school_some {l : List Le} (h : l ≠ []) : lenM 100 (schoolM l).1 (schoolM l).2 ≠ 0 := by
  obtain ⟨m, x, rfl⟩ := (List.eq_nil_or_concat l).resolve_left h
  rw [List.concat_eq_append]
  rw [school_snoc]
  unfold stepM
  exact len_learn (by decide)

end Go.Proofs.Ytdceggekhhflgaa
