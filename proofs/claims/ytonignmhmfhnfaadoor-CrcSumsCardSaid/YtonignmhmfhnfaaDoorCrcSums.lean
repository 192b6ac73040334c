/- switchyardlaw.CrcSums returns true at every text, and changes nothing that was there. -/
import Derived.Test.YtonignmhmfhnfaaDoorRefSeal
import Derived.Test.YtonignmhmfhnfaaDoorBare
namespace Go.Proofs.YtonignmhmfhnfaaDoor.crcSums
open Go.RowKit

/-- What the two Opens say, and that it is one. -/
def Opens (s : ByteArray) (u : ByteArray) (er : Value) (ea : Int) : Prop :=
  (∀ W, Calls Tryd.prog 5 #[.string s] W fun e w' => e = .returned (.tuple #[.string u, er]) ∧ Below W.heap.size W w') ∧
  (∀ W, Calls Tryd.prog 4 #[.string s] W fun e w' => e = .returned (.tuple #[.string u, .int .i64 ea]) ∧ Below W.heap.size W w') ∧ Bare er ea

theorem opens_any (s : ByteArray) (hs : s.size ≤ 300) : ∃ u er ea, Opens s u er ea := by
  by_cases h4 : s.size < 4
  · exact ⟨⟨#[]⟩, _, _, fun W => (open_short s W h4).mono (by rintro e w' ⟨rfl, rfl⟩; exact ⟨rfl, Below.refl _ _⟩), fun W => (refOpen_short s W h4).mono (by rintro e w' ⟨rfl, rfl⟩; exact ⟨rfl, Below.refl _ _⟩), Bare.errno 7⟩
  · cases ho : sealedB s.data.toList with
    | true => exact ⟨_, _, _, fun W => open_ok s W (by omega) (by omega) ho, fun W => refOpen_ok s W (by omega) (by omega) ho, Bare.none⟩
    | false => exact ⟨_, _, _, fun W => open_spoilt s W (by omega) (by omega) ho, fun W => refOpen_spoilt s W (by omega) (by omega) ho, Bare.errno 15⟩

theorem walk (s : ByteArray) (w : World) (hE : HasErr w) :
    Calls Tryd.prog 3 #[.string s] w fun e w' => e = .returned (.bool true) ∧ Below w.heap.size w w' := by
  by_cases hs : s.size ≤ 300
  · have hgt : decide ((300 : Int) < (s.size : Int)) = false := decide_eq_false (by omega)
    obtain ⟨u, er, ea, ho⟩ := opens_any s hs
    have H1 := Lib.hid ho.1
    have H2 := Lib.hid ho.2.1
    have H3 := Lib.hid ho.2.2
    have H4 : Hid (∀ W, Calls Tryd.prog 6 #[.string s] W fun e w' => e = .returned (.int .u32 (csum s.data.toList : Nat)) ∧ W = w') := fun W => sum_any s W (by omega)
    have H5 : Hid (∀ W, Calls Tryd.prog 7 #[.string s] W fun e w' => e = .returned (.int .u32 (csum s.data.toList : Nat)) ∧ Below W.heap.size W w') := fun W => refCrc_any s W (by omega)
    have H6 : Hid (∀ W, Calls Tryd.prog 8 #[.string s] W fun e w' => e = .returned (.string ⟨(sealL s.data.toList).toArray⟩) ∧ Below W.heap.size W w') := fun W => seal_any s W (by omega)
    have H7 : Hid (∀ W, Calls Tryd.prog 9 #[.string s] W fun e w' => e = .returned (.string ⟨(sealL s.data.toList).toArray⟩) ∧ Below W.heap.size W w') := fun W => refSeal_any s W (by omega)
    clear ho
    generalize csum s.data.toList = c at *
    generalize (⟨(sealL s.data.toList).toArray⟩ : ByteArray) = z at *
    have hq : (u.toList == u.toList) = true := beq_iff_eq.2 rfl
    have hq2 : (z.toList == z.toList) = true := beq_iff_eq.2 rfl
    go_enter Tryd.func3, Tryd.ntmps3
    go_wp2_with fail
    refine (H2.out _).mono ?_
    rintro e w1 ⟨rfl, k1⟩
    go_wp2_with fail
    refine (H1.out _).mono ?_
    rintro e w2 ⟨rfl, k2⟩
    have b2 := k1.trans (k2.mono k1.size)
    clear k1 k2
    go_wp2_with fail
    refine (H4.out _).mono ?_
    rintro e w3 ⟨rfl, rfl⟩
    go_wp2_with fail
    refine (H5.out _).mono ?_
    rintro e w4 ⟨rfl, k4⟩
    have b4 := b2.trans (k4.mono b2.size)
    clear b2 k4
    go_wp2_with fail
    refine (H6.out _).mono ?_
    rintro e w5 ⟨rfl, k5⟩
    have b5 := b4.trans (k5.mono b4.size)
    clear b4 k5
    go_wp2_with fail
    refine (H7.out _).mono ?_
    rintro e w6 ⟨rfl, k6⟩
    have b6 := b5.trans (k6.mono b5.size)
    clear b5 k6
    go_wp2_with fail
    refine (H3.out _ (hE.below b6)).mono ?_
    rintro e w7 ⟨rfl, k7⟩
    have b7 := b6.trans (k7.mono b6.size)
    go_wp2
    go_ret
    exact ⟨rfl, b7⟩
  · have hgt : decide ((300 : Int) < (s.size : Int)) = true := decide_eq_true (by omega)
    go_enter Tryd.func3, Tryd.ntmps3
    go_wp2
    go_ret
    exact ⟨rfl, Below.refl _ _⟩
end Go.Proofs.YtonignmhmfhnfaaDoor.crcSums
