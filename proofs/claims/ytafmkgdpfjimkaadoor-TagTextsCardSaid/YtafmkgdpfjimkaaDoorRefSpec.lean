/- What the reference's TagParse looks at in a text: plain lists, nothing of the program. -/
import Derived.Test.YtafmkgdpfjimkaaDoorTagSpec
import Derived.Lib.IndexBytes
namespace Go.Proofs.YtafmkgdpfjimkaaDoor

theorem textT_parts (t : Tg) (h : okT t = true) : ∃ p, textT t = p ++ 46 :: Lib.itoa t.v ∧ (∀ b ∈ p, b ≠ 46) ∧ 2 ≤ p.length ∧ p.length ≤ 3 := by
  obtain ⟨p0, p7, v0, v1⟩ := okT_all h
  refine ⟨(if t.s then 115 else 99) :: UInt8.ofNat (48 + t.p.toNat) :: (if t.d then [33] else []), ?_, ?_, by simp, ?_⟩
  · unfold textT
    rw [itoa_one t.p p0 p7]
    simp
  · intro b hb
    have hp := digit_byte t.p.toNat (by omega)
    simp only [List.mem_cons] at hb
    rcases hb with rfl | rfl | hb
    · split <;> decide
    · intro q
      rw [q] at hp
      exact absurd hp.1 (by decide)
    · split at hb
      · simp only [List.mem_singleton] at hb; subst hb; decide
      · cases hb
  · cases t.s <;> cases t.d <;> simp

/-- What a tag's text shows. -/
theorem text_shows (t : Tg) (h : okT t = true) (l : List UInt8) (he : textT t = l) :
    2 ≤ Lib.indexByte l 46 ∧ (l.length : Int) - Lib.indexByte l 46 ≤ 6 ∧ l.drop (Lib.indexByte l 46 + 1).toNat = Lib.itoa t.v := by
  obtain ⟨p, hp, hn, h2, h3⟩ := textT_parts t h
  obtain ⟨p0, p7, v0, v1⟩ := okT_all h
  have hi : Lib.indexByte l 46 = (p.length : Int) := by
    rw [← he, hp, ← Lib.index_one, index_dot p _ hn]
  have hl := itoa_length t.v v0 v1
  rw [hi]
  refine ⟨by omega, ?_, ?_⟩
  · rw [← he, hp]
    simp
    omega
  · rw [← he, hp, show ((p.length : Int) + 1).toNat = p.length + 1 by omega]
    simp [List.drop_append]

/-- The digits of a number read as it. -/
theorem itoa_reads (v : Int) (h0 : 0 ≤ v) : Lib.decFrom 0 (Lib.itoa v) = some v.toNat := by
  obtain ⟨u, rfl⟩ := Int.eq_ofNat_of_zero_le h0
  rw [itoa_nat]
  exact decFrom_digits u

theorem itoa_bytes (v : Int) (h0 : 0 ≤ v) : ∀ b ∈ Lib.itoa v, 48 ≤ b.toNat ∧ b.toNat ≤ 57 := by
  obtain ⟨u, rfl⟩ := Int.eq_ofNat_of_zero_le h0
  rw [itoa_nat]
  exact decDigits_bytes u

theorem decFrom_take (r : List UInt8) (k N : Nat) (hk : k < r.length) (h : Lib.decFrom 0 (r.take k) = some N) (h1 : 48 ≤ (r[k]).toNat) (h2 : (r[k]).toNat ≤ 57) :
    Lib.decFrom 0 (r.take (k + 1)) = some (N * 10 + ((r[k]).toNat - 48)) := by
  rw [List.take_succ_eq_append_getElem hk, decFrom_append _ _ _ _ h, Lib.decFrom, Lib.digitVal, if_pos ⟨h1, h2⟩]
  simp [Lib.decFrom]

/-- The four kinds that the reference tries. -/
def kindS (j : Nat) : Bool := j == 0 || j == 2
def kindD (j : Nat) : Bool := j == 2 || j == 3

/-- No tag has this text. -/
def NoTag (l : List UInt8) : Prop := ∀ t : Tg, okT t = true → textT t ≠ l

theorem no_digit {l r : List UInt8} (hr : r = l.drop (Lib.indexByte l 46 + 1).toNat) (k : Nat) (hk : k < r.length) (h : ¬ (48 ≤ (r[k]).toNat ∧ (r[k]).toNat ≤ 57)) : NoTag l := by
  intro t hok he
  obtain ⟨p0, p7, v0, v1⟩ := okT_all hok
  have hd := (text_shows t hok l he).2.2
  rw [← hr] at hd
  subst hd
  exact h (itoa_bytes t.v v0 _ (List.getElem_mem hk))

theorem no_kind {l : List UInt8} {N : Nat} (hN : Lib.decFrom 0 (l.drop (Lib.indexByte l 46 + 1).toNat) = some N)
    (h : ∀ j, j < 4 → ∀ p : Nat, p < 8 → okT ⟨kindS j, p, kindD j, N⟩ = true → textT ⟨kindS j, p, kindD j, N⟩ ≠ l) : NoTag l := by
  intro t hok he
  obtain ⟨p0, p7, v0, v1⟩ := okT_all hok
  have hd := (text_shows t hok l he).2.2
  rw [hd, itoa_reads t.v v0, Option.some.injEq] at hN
  obtain ⟨s, p, d, v⟩ := t
  dsimp only at p0 p7 v0 v1 hN
  obtain ⟨P, rfl⟩ := Int.eq_ofNat_of_zero_le p0
  obtain rfl : v = (N : Int) := by omega
  cases s <;> cases d
  · exact h 1 (by omega) P (by omega) hok he
  · exact h 3 (by omega) P (by omega) hok he
  · exact h 0 (by omega) P (by omega) hok he
  · exact h 2 (by omega) P (by omega) hok he
end Go.Proofs.YtafmkgdpfjimkaaDoor
