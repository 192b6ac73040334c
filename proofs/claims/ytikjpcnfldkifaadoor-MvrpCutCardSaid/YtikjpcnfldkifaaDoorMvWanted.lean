/- switchyardkeep.wanted, lots. -/
import Derived.Test.YtikjpcnfldkifaaDoorMvRead
import Derived.Test.YtikjpcnfldkifaaDoorMvSame
namespace Go.Proofs.YtikjpcnfldkifaaDoor
open Go.RowKit
attribute [local go_sem ↓] Go.wp_at_zero Go.wp_at_succ
set_option linter.unusedSimpArgs false
set_option linter.unusedVariables false
set_option maxRecDepth 100000

theorem ownIv_cap {w : World} {base n c : Nat} {a : Option Addr} {l : List Int} (hn : n = l.length) (h : OwnIv w base (.slice a n c) l) : IvIn w a l ∧ n ≤ c ∧ c ≤ maxLen := by
  subst hn
  rcases h with ⟨rfl, e⟩ | ⟨h1, g, cap, e, h2⟩
  · injection e with e1 e2 e3
    subst e1 e3
    exact ⟨Or.inl rfl, Nat.le_refl _, Nat.zero_le _⟩
  · injection e with e1 e2 e3
    subst e1 e3
    rcases h2.2 with ⟨e, _⟩ | ⟨g', cap', cur, e, _, _, q1, q2, _⟩
    · cases e
    · injection e with e1 e2 e3
      subst e3
      exact ⟨Or.inr ⟨g, 0, rfl, (h2.lt g rfl).2, iv_own rfl h2⟩, q1, q2⟩

theorem ownAs_in {w : World} {base : Nat} {v : Value} {hs : List MvH} (h : OwnAs w base v hs) : ∃ a c, v = .slice a hs.length c ∧ MvsIn w a hs := by
  obtain ⟨a, c, e, hm⟩ := h.row.inL
  exact ⟨a, c, e, hm, fun x hx => ownIv_cap rfl (h.ev x hx)⟩

theorem err_nil {w : World} {er : Value} {pl : Int} (h : ErrAs w er 0 pl) : er = .nilIface := by
  rcases h with ⟨e, _⟩ | ⟨e, _⟩
  · exact e
  · exact absurd rfl e

theorem err3_nil {w : World} {er : Value} {pl : Int} (h : ErrAs3 w er 0 pl) : er = .nilIface := by
  rcases h with h | ⟨_, e, _⟩
  · exact err_nil h
  · exact absurd rfl e

theorem err3_ne {w : World} {er : Value} {e pl : Int} (h : ErrAs3 w er e pl) (he : e ≠ 0) : ∃ t p, er = .iface t p := by
  rcases h with (⟨_, e1, _⟩ | ⟨_, q, e1, _⟩) | ⟨e1, _⟩
  · exact absurd e1 he
  · exact ⟨_, _, e1⟩
  · exact ⟨_, _, e1⟩

theorem err_ne {w : World} {er : Value} {e pl : Int} (h : ErrAs w er e pl) (he : e ≠ 0) : ∃ q, er = .iface 110 (.pointer (some ⟨q, 0, none⟩)) ∧ Flt w q e pl := by
  rcases h with ⟨_, e1, _⟩ | ⟨_, q, e1, hf⟩
  · exact absurd e1 he
  · exact ⟨q, e1, hf⟩

set_option maxHeartbeats 1600000 in
theorem lots_some (a : Option Addr) (c : Nat) (hs : List MvH) (w : World) (h : MvsIn w a hs) (hm : hs.length ≤ maxLen) :
    Calls Tryd.prog 25 #[.slice a hs.length c] w fun e w' => (∃ b, e = .returned (.bool b)) ∧ Below w.heap.size w w' := by
  have k1 : hs.length ≤ 9223372036854775807 := hm
  clear hm
  go_enter Tryd.func25, Tryd.ntmps25
  go_wp2_with fail
  go_loopw [3, 10] (fun v i wr => ∃ k : Nat, k ≤ hs.length ∧ i = .int .i64 k ∧ (∃ x : Int, v = .int .i64 x) ∧ Below w.heap.size w wr) (fun _ i _ => hs.length - (intOf i).toNat)
  case atStart => exact ⟨0, by omega, rfl, ⟨_, rfl⟩, Below.refl _ _⟩
  case round =>
    obtain ⟨k, hk, rfl, ⟨x, rfl⟩, Bk⟩ := hrel
    by_cases hlt : k < hs.length
    · have hI := h.below Bk
      obtain ⟨b, lo, rfl, hbl, hat⟩ := hI.row.at hlt
      have q1 : (k : Int) < (hs.length : Int) := by omega
      have q2 : decide ((k : Int) < (hs.length : Int)) = true := decide_eq_true q1
      have q3 : (0 : Int) ≤ (k : Int) := by omega
      have q4 : IntKind.i64.wrap ((k : Int) + 1) = (k : Int) + 1 := by rw [IntKind.wrap_i64] <;> omega
      have HK := hat k hlt
      have hsw := Bk.size
      generalize hs[k] = y at *
      clear hat hI
      have HA4 := Blk.new wr 36 (mvC zMvH)
      have b4 : Below wr.heap.size wr (wr.alloc (.cells (mvC zMvH) 36)) := (Below.refl _ _).alloc (Nat.le_refl _) _
      go_upto_region 5 with (first
        | (refine load_cells (B := b) (k := lo + k * 3) 36 (mvC y) (by rfl) rfl rfl HK (by kernel_rfl) (by kernel_rfl) ?_)
        | (refine alloc_blk 36 (mvC zMvH) (by rfl) rfl Tryd.mhZero ?_)
        | (refine store_blk (k := 0) 36 (.agg (mvC y)) (mvC y) (by rfl) rfl rfl rfl HA4 (by kernel_rfl) (show (3 : Nat) ≤ 3 from Nat.le_refl 3) (by rfl) (st_whole _ _ rfl) ?_; intro w5 HA5 b5 g5))
      have B5 := Bk.trans ((b4.trans b5).mono hsw)
      clear HA4 b4 b5 g5 HK Bk
      generalize wr.heap.size = G1 at *
      have c2 := HA5.cv 2 (.slice y.a y.x.ev.length y.c) rfl
      obtain ⟨L, hL⟩ : ∃ L, y.x.ev.length = L := ⟨_, rfl⟩
      rw [hL] at c2
      clear hL HA5
      go_wp2
      go_roundw
      case rel => exact ⟨k + 1, by omega, by go_num, ⟨_, rfl⟩, B5⟩
      case measure => simp [intOf]; omega
    · obtain rfl : k = hs.length := by omega
      have q2 : decide ((hs.length : Int) < (hs.length : Int)) = false := decide_eq_false (by omega)
      go_wp2
      go_ret
      exact ⟨⟨_, rfl⟩, Bk⟩

def mv0 : Mv := ⟨false, 10, [1, 2, 3, 4]⟩

theorem mv0_ok : okMv mv0 = true := by decide

theorem mv0_E : mvE [mv0] = (0, -1) := by decide

theorem mv0_W : mvX [mv0] = [0, 1, 2, 0, 4, 0, 10, 51, 144, 0, 0, 0, 0] := by decide

theorem mv0_R : rdMvs [0, 1, 2, 0, 4, 0, 10, 51, 144, 0, 0, 0, 0] = .ok [mv0] := by
  have h := mvs_wrote [mv0] (by simp [mv0_ok]) (by decide)
  have e : mvW [mv0] = [0, 1, 2, 0, 4, 0, 10, 51, 144, 0, 0, 0, 0] := by decide
  rw [e] at h
  exact h

theorem w_one (B0 B1 : Nat) (w2 : World) (H1 : Blk w2 B1 36 (mvC ⟨mv0, some ⟨B0, 0, none⟩, 4⟩)) (H0 : Blk w2 B0 3 #[.int .i64 1, .int .i64 2, .int .i64 3, .int .i64 4]) :
    MvsIn w2 (some ⟨B1, 0, none⟩) [⟨mv0, some ⟨B0, 0, none⟩, 4⟩] := by
  refine ⟨Or.inr ⟨B1, 0, rfl, H1.lt, ?_⟩, ?_⟩
  · intro j hj
    have hj : j < 1 := hj
    obtain rfl : j = 0 := by omega
    intro k u hu
    have := H1.cv k u hu
    simpa using this
  · intro h hh
    simp only [List.mem_singleton] at hh
    subst hh
    refine ⟨Or.inr ⟨B0, 0, rfl, H0.lt, ?_⟩, Nat.le_refl 4, (show 4 ≤ maxLen by unfold maxLen; decide)⟩
    intro j hj
    have hj : j < 4 := hj
    intro k u hu
    have hk : k = 0 := by
      rcases k with _ | k
      · rfl
      · simp [ivC] at hu
    subst hk
    have e : (#[.int .i64 1, .int .i64 2, .int .i64 3, .int .i64 4] : Array Value)[j]? = some u := by
      rw [← hu]
      rcases j with _ | _ | _ | _ | j <;> first | rfl | omega
    have := H0.cv j u e
    simpa using this

theorem wr_one (a : Option Addr) (c : Nat) (h : MvH) (hh : h.x = mv0) (S : ByteArray) (hS : S = ⟨#[0, 1, 2, 0, 4, 0, 10, 51, 144, 0, 0, 0, 0]⟩) (w : World) (H : MvsIn w a [h]) :
    Calls Tryd.prog 13 #[.slice a 1 c] w fun e w' => e = .returned (.tuple #[.string S, .nilIface]) ∧ Below w.heap.size w w' := by
  subst hS
  have hx : xs [h] = [mv0] := by simp [xs, hh]
  refine (mvWrite_any a c [h] w H).mono ?_
  rintro e w' ⟨er, rfl, hE, b⟩
  rw [hx, mv0_E] at hE
  obtain rfl := err3_nil hE
  rw [hx, mv0_W]
  exact ⟨rfl, b⟩

theorem rd_one (S : ByteArray) (hS : S = ⟨#[0, 1, 2, 0, 4, 0, 10, 51, 144, 0, 0, 0, 0]⟩) (w : World) :
    Calls Tryd.prog 18 #[.string S] w fun e w' => ∃ a c h, e = .returned (.tuple #[.slice a 1 c, .nilIface]) ∧ h.x = mv0 ∧ MvsIn w' a [h] ∧ Below w.heap.size w w' := by
  subst hS
  refine (mvRead_any ⟨#[0, 1, 2, 0, 4, 0, 10, 51, 144, 0, 0, 0, 0]⟩ w (by decide)).mono ?_
  rintro e w' ⟨v, er, hs, rfl, hx, hO, hE, b⟩
  have e1 : rdMvs (⟨#[0, 1, 2, 0, 4, 0, 10, 51, 144, 0, 0, 0, 0]⟩ : ByteArray).data.toList = .ok [mv0] := mv0_R
  rw [e1] at hx hE
  obtain rfl := err_nil hE
  obtain ⟨a, c, rfl, hm⟩ := ownAs_in hO
  have hx : xs hs = [mv0] := hx
  have hl : hs.length = 1 := by rw [← xs_len, hx]; rfl
  match hs, hl with
  | [h], _ =>
    have : h.x = mv0 := by simpa [xs] using hx
    exact ⟨a, c, h, rfl, this, hm, b⟩

theorem same_one (a1 a2 : Option Addr) (c1 c2 : Nat) (h1 h2 : MvH) (e1 : h1.x = mv0) (e2 : h2.x = mv0) (w : World) (H1 : MvsIn w a1 [h1]) (H2 : MvsIn w a2 [h2]) :
    Calls Tryd.prog 30 #[.slice a1 1 c1, .slice a2 1 c2] w fun e w' => e = .returned (.bool true) ∧ Below w.heap.size w w' := by
  refine (sameK_any a1 a2 c1 c2 [h1] [h2] w H1 H2 (show 1 ≤ maxLen by unfold maxLen; decide) (show 1 ≤ maxLen by unfold maxLen; decide)).mono ?_
  rintro e w' ⟨rfl, b⟩
  have : xs [h1] = xs [h2] := by simp [xs, e1, e2]
  rw [decide_eq_true this]
  exact ⟨rfl, b⟩

set_option maxHeartbeats 3200000 in
theorem wanted_yes (w : World) : Calls Tryd.prog 24 #[] w fun e w' => e = .returned (.bool true) ∧ Below w.heap.size w w' := by
  have hE0 := Blk.new w 3 #[.int .i64 1, .int .i64 2, .int .i64 3, .int .i64 4]
  have b0 : Below w.heap.size w (w.alloc (.cells #[.int .i64 1, .int .i64 2, .int .i64 3, .int .i64 4] 3)) := (Below.refl _ _).alloc (Nat.le_refl _) _
  have z0 : (0 : Nat) < w.heap.size + 1 := Nat.succ_pos _
  generalize hhd : (⟨mv0, some ⟨w.heap.size, 0, none⟩, 4⟩ : MvH) = hd
  have hc : Hid (mvC hd = #[.bool false, .int .i64 10, .slice (some ⟨w.heap.size, 0, none⟩) 4 4]) := by rw [← hhd]; rfl
  have hx : Hid (hd.x = mv0) := by rw [← hhd]; exact Lib.hid rfl
  have hM : Hid (∀ w2 B1, Blk w2 B1 36 (mvC hd) → Blk w2 w.heap.size 3 #[.int .i64 1, .int .i64 2, .int .i64 3, .int .i64 4] → MvsIn w2 (some ⟨B1, 0, none⟩) [hd]) := by
    intro w2 B1 H1 H0
    rw [← hhd] at H1 ⊢
    exact w_one _ _ _ H1 H0
  clear hhd
  have hz : Hid (∀ o, (w.alloc o).heap.size = w.heap.size + 1) := Lib.hid fun o => Array.size_push _
  obtain ⟨S, hS⟩ : ∃ S : ByteArray, Hid (S = ⟨#[0, 1, 2, 0, 4, 0, 10, 51, 144, 0, 0, 0, 0]⟩) := ⟨_, Lib.hid rfl⟩
  have q1 : (S.toList == [0, 1, 2, 0, 4, 0, 10, 51, 144, 0, 0, 0, 0]) = true := by rw [hS.out, ByteArray.toList_eq]; decide
  go_enter Tryd.func24, Tryd.ntmps24
  go_wp2_with (first
    | (refine build_blk (t := 36) (mvC hd) (by rfl) rfl (by rw [hc.out]; kernel_rfl) ?_)
    | (refine sliceL_mh hd rfl rfl rfl ?_; intro w2 HS2 b2 s2
       rw [hz.out] at HS2 b2 s2
       have HM2 := hM.out w2 _ HS2 (hE0.below b2 (Nat.lt_succ_self _)))
    | (refine (wr_one _ _ hd hx.out S hS.out _ HM2).mono ?_; rintro e w3 ⟨rfl, b3⟩)
    | (refine (rd_one S hS.out _).mono ?_; rintro e w4 ⟨a4, c4, h4, rfl, e4, HM4, b4⟩)
    | (refine (same_one _ _ _ _ hd h4 hx.out e4 _ (HM2.below (b3.trans (b4.mono b3.size))) HM4).mono ?_; rintro e w5 ⟨rfl, b5⟩))
  go_ret
  refine ⟨rfl, b0.trans ((b2.mono (Nat.le_succ _)).trans ?_)⟩
  exact (b3.trans ((b4.mono b3.size).trans (b5.mono (Nat.le_trans b3.size b4.size)))).mono (Nat.le_of_lt (Nat.lt_trans (Nat.lt_succ_self _) s2))

end Go.Proofs.YtikjpcnfldkifaaDoor
