/- mvrp.Write at every list of attributes. -/
import Derived.Test.YtdjljnpbnhampaaDoorAttrT
import Derived.Test.YtdjljnpbnhampaaDoorErrA
namespace Go.Proofs.YtdjljnpbnhampaaDoor
open Go.RowKit
attribute [local go_sem ↓] Go.wp_at_zero Go.wp_at_succ
set_option linter.unusedSimpArgs false
set_option linter.unusedVariables false
set_option maxRecDepth 100000

theorem Tryd.mhZero : (Tryd.prog.info? 92).map (·.zero) = some (some (.agg (mvC zMvH))) := by kernel_rfl

/-- A list of attributes lies here, each with its events. -/
structure MvsIn (w : World) (a : Option Addr) (hs : List MvH) : Prop where
  row : MhIn w a hs
  ev : ∀ h ∈ hs, IvIn w h.a h.x.ev ∧ h.x.ev.length ≤ h.c ∧ h.c ≤ maxLen

theorem MvsIn.below {w w' : World} {a : Option Addr} {hs : List MvH} (h : MvsIn w a hs) (hb : Below w.heap.size w w') : MvsIn w' a hs := ⟨h.row.below hb, fun x hx => ⟨(h.ev x hx).1.below hb, (h.ev x hx).2⟩⟩

def xs (hs : List MvH) : List Mv := hs.map (·.x)

theorem xs_len (hs : List MvH) : (xs hs).length = hs.length := by simp [xs]

theorem xs_get (hs : List MvH) (k : Nat) (hk : k < hs.length) : (xs hs)[k]'(by rw [xs_len]; exact hk) = hs[k].x := by simp [xs]

theorem xs_take (hs : List MvH) (k : Nat) : xs (hs.take k) = (xs hs).take k := by simp [xs, List.map_take]

/-- An error of Write: none, one at an attribute, or one alone. -/
def ErrAs3 (w : World) (er : Value) (e pl : Int) : Prop := ErrAs w er e pl ∨ (er = .iface 35 (.int .i64 e) ∧ e ≠ 0 ∧ pl = -1)

theorem ErrAs3.below {w w' : World} {er : Value} {e pl : Int} (h : ErrAs3 w er e pl) (hb : Below w.heap.size w w') : ErrAs3 w' er e pl := by
  rcases h with h | h
  · exact Or.inl (h.below hb)
  · exact Or.inr h

/-- What is written: nothing where it may not be. -/
def mvX (l : List Mv) : List UInt8 := if (mvE l).1 = 0 then mvW l else []

theorem mvX_bad {l : List Mv} {e p : Int} (h : mvE l = (e, p)) (he : e ≠ 0) : mvX l = [] := by unfold mvX; rw [h]; exact if_neg he

theorem mvX_ok {l : List Mv} {p : Int} (h : mvE l = (0, p)) : mvX l = mvW l := by unfold mvX; rw [h]; exact if_pos rfl

theorem attrs_at (hs : List MvH) (k : Nat) (hk : k < hs.length) : attrsW (xs (hs.take (k + 1))) = attrsW (xs (hs.take k)) ++ attrW hs[k].x := by
  rw [xs_take, xs_take, attrsW_take _ k (by rw [xs_len]; exact hk), xs_get]

theorem mvWrite_long (a : Option Addr) (c : Nat) (n : Nat) (hn : 40 < n) (w : World) :
    Calls Tryd.prog 64 #[.slice a n c] w fun e w' => e = .returned (.tuple #[.string ⟨#[]⟩, .iface 35 (.int .i64 4)]) ∧ Below w.heap.size w w' := by
  have q1 : (40 : Int) < (n : Int) := by omega
  have q2 : decide ((40 : Int) < (n : Int)) = true := decide_eq_true q1
  go_enter Tryd.func64, Tryd.ntmps64
  go_wp2
  go_ret2
  exact ⟨rfl, Below.refl _ _⟩

theorem mvWrite_nil (a : Option Addr) (c : Nat) (w : World) :
    Calls Tryd.prog 64 #[.slice a 0 c] w fun e w' => e = .returned (.tuple #[.string ⟨#[0, 0, 0]⟩, .nilIface]) ∧ Below w.heap.size w w' := by
  go_enter Tryd.func64, Tryd.ntmps64
  go_wp2
  go_ret2
  exact ⟨rfl, Below.refl _ _⟩

set_option maxHeartbeats 6400000 in
theorem mvWrite_some (a : Option Addr) (c : Nat) (hs : List MvH) (m : Nat) (hm : m ≤ hs.length) (hlo : 0 < hs.length) (hhi : ¬ 40 < hs.length) (hok : ∀ (k : Nat) (hk : k < hs.length), k < m → okMv hs[k].x = true) (X : List UInt8) (e0 pl : Int)
    (hend : (m = hs.length ∧ X = [0, 1, 2] ++ attrsW (xs hs) ++ [0, 0, 0, 0] ∧ e0 = 0 ∧ pl = -1) ∨ (∃ hk : m < hs.length, okMv hs[m].x = false ∧ X = [] ∧ e0 = 1 ∧ pl = m)) (w : World) (h : MvsIn w a hs) :
    Calls Tryd.prog 64 #[.slice a hs.length c] w fun e w' => ∃ er, e = .returned (.tuple #[.string ⟨X.toArray⟩, er]) ∧ ErrAs w' er e0 pl ∧ Below w.heap.size w w' := by
  have HB0 := bo_new w
  have B0 : Below w.heap.size w (w.alloc (.cells #[.pointer none, .slice none 0 0] 188)) := (Below.refl _ _).alloc (Nat.le_refl _) _
  have HSL : Hid (∀ k, k ≤ m → (attrsW (xs (hs.take k))).length ≤ 138 * k) := fun k hk => by
    have q := attrsW_le (xs (hs.take k)) (fun x hx => by
      obtain ⟨y, hy, rfl⟩ := List.mem_map.1 hx
      obtain ⟨j, hj, rfl⟩ := List.mem_take_iff_getElem.1 hy
      exact hok j (by omega) (by omega))
    rw [xs_len, List.length_take] at q
    omega
  have HOK := Lib.hid hok
  have HT := Lib.hid (attrs_at hs)
  have HZ : Hid (attrsW (xs (hs.take 0)) = []) := by show _ = _; rw [List.take_zero]; rfl
  have HWS : Hid (∀ (y z : List UInt8) (W : World), BO w.heap.size y W → y.length + z.length ≤ 10000 → Calls Tryd.prog 92 #[.pointer (some ⟨w.heap.size, 0, none⟩), .string ⟨z.toArray⟩] W fun e w' => e = .returned (.tuple #[.int .i64 z.length, .nilIface]) ∧ BO w.heap.size (y ++ z) w' ∧ Below w.heap.size W w' ∧ KeepO W w') := fun y z W hB hz => write_bo w.heap.size y z W hB (by omega) (Nat.le_of_lt (bo_lt hB))
  have d1 : decide ((40 : Int) < (hs.length : Int)) = false := decide_eq_false (by omega)
  have d2 : ((hs.length : Int) == 0) = false := beq_eq_false_iff_ne.2 (by omega)
  clear hok
  go_enter Tryd.func64, Tryd.ntmps64
  go_upto_region 6 with (fail)
  obtain ⟨g, hg⟩ : ∃ g, w.heap.size = g := ⟨_, rfl⟩
  rw [hg] at HB0 B0 HWS ⊢
  generalize w.alloc (.cells #[.pointer none, .slice none 0 0] 188) = w1 at *
  have H3 := Lib.hid (HWS.out [] [0, 1, 2] w1 HB0 (by decide))
  go_wp2_with fail
  refine H3.out.mono ?_
  rintro e w2 ⟨rfl, HB2, b2, K2⟩
  rw [List.nil_append] at HB2
  have B2 := B0.trans b2
  clear H3 HB0 B0 b2 K2
  go_wp2_with fail
  go_loopw [19] (fun i wr => ∃ k : Nat, k ≤ m ∧ i = .int .i64 k ∧ BO g ([0, 1, 2] ++ attrsW (xs (hs.take k))) wr ∧ Below g w wr) (fun i _ => hs.length - (intOf i).toNat)
  case atStart => exact ⟨0, by omega, rfl, by rw [HZ.out, List.append_nil]; exact HB2, B2⟩
  case round =>
    obtain ⟨k, hk, rfl, HBk, Bk⟩ := hrel
    have hsk := HSL.out k hk
    have hsw : g ≤ wr.heap.size := by rw [← hg]; exact Bk.size
    by_cases hlt : k < hs.length
    · have Bk2 : Below w.heap.size w wr := by rw [hg]; exact Bk
      have hIk := h.below Bk2
      obtain ⟨b, lo, rfl, hbl, hat⟩ := hIk.row.at hlt
      have q1 : (k : Int) < (hs.length : Int) := by omega
      have q2 : decide ((k : Int) < (hs.length : Int)) = true := decide_eq_true q1
      have q3 : (0 : Int) ≤ (k : Int) := by omega
      have HK := hat k hlt
      obtain ⟨hev, hcap, hcm⟩ := hIk.ev hs[k] (List.getElem_mem hlt)
      have HA4 := Blk.new wr 92 (mvC zMvH)
      have B4 := Bk.alloc hsw (.cells (mvC zMvH) 92)
      have hb4 : Below wr.heap.size wr (wr.alloc (.cells (mvC zMvH) 92)) := (Below.refl _ _).alloc (Nat.le_refl _) _
      have HR : Hid (∀ W, Below wr.heap.size wr W → Calls Tryd.prog 22 #[.agg (mvC hs[k])] W fun e w' => e = .returned (.bool (okMv hs[k].x)) ∧ Below W.heap.size W w') := fun W hb => mvRight_any hs[k].x hs[k].a hs[k].c W (hev.below hb) (Nat.le_trans hcap hcm)
      have HX : Hid (∀ W, okMv hs[k].x = true → Below wr.heap.size wr W → Calls Tryd.prog 93 #[.agg (mvC hs[k])] W fun e w' => e = .returned (.string ⟨(attrW hs[k].x).toArray⟩) ∧ Below W.heap.size W w') := fun W hx hb => attrText_any hs[k].x hs[k].a hs[k].c hcap W hx (hev.below hb)
      have hHT := Lib.hid (HT.out k hlt)
      have hOK := Lib.hid (fun h => HOK.out k hlt h)
      have hbad : Hid (m = k → okMv hs[k].x = false ∧ X = [] ∧ e0 = 1 ∧ pl = k) := fun e1 => by
        rcases hend with ⟨r1, _⟩ | ⟨hk2, r2, r3, r4, r5⟩
        · omega
        · subst e1
          exact ⟨r2, r3, r4, r5⟩
      have hal : Hid (okMv hs[k].x = true → (attrW hs[k].x).length ≤ 138) := fun q => by
        rw [attrW_len]
        have := okMv_len q
        omega
      generalize hs[k] = x at *
      clear hat Bk hend HT HOK hIk hev hcap hcm Bk2 HSL
      go_upto_region 10 with (first
        | (refine load_cells (B := b) (k := lo + k * 3) 92 (mvC x) (by rfl) rfl rfl HK (by kernel_rfl) (by kernel_rfl) ?_)
        | (refine alloc_blk 92 (mvC zMvH) (by rfl) rfl Tryd.mhZero ?_)
        | (refine store_blk (k := 0) 92 (.agg (mvC x)) (mvC x) (by rfl) rfl rfl rfl HA4 (by kernel_rfl) (show (3 : Nat) ≤ 3 from Nat.le_refl 3) (by rfl) (st_whole _ _ rfl) ?_; intro w5 HA5 b5 g5))
      have HB5 : BO g ([0, 1, 2] ++ attrsW (xs (hs.take k))) w5 := isB_below HBk (hb4.trans b5)
      have B5 := B4.trans (b5.mono hsw)
      have b05 := hb4.trans b5
      clear HA4 B4 b5 g5 HK hb4 HBk
      have hyl : ([0, 1, 2] ++ attrsW (xs (hs.take k)) : List UInt8).length ≤ 3 + 138 * k := by rw [List.length_append]; show 3 + (attrsW (xs (hs.take k))).length ≤ _; omega
      have hnx : Hid ([0, 1, 2] ++ attrsW (xs (hs.take (k + 1))) = ([0, 1, 2] ++ attrsW (xs (hs.take k))) ++ attrW x.x) := by show _ = _; rw [hHT.out, List.append_assoc]
      generalize ([0, 1, 2] ++ attrsW (xs (hs.take k)) : List UInt8) = yk at *
      clear hHT hsk
      have HR5 := Lib.hid (HR.out _ b05)
      by_cases hkm : k < m
      · have hx := hOK.out hkm
        have hxl := hal.out hx
        have HX5 := Lib.hid (fun W => HX.out W hx)
        replace HR : Hid (Calls Tryd.prog 22 #[.agg (mvC x)] w5 fun e w' => e = .returned (.bool true) ∧ Below w5.heap.size w5 w') := by rw [← hx]; exact HR5.out
        clear hbad hOK hx HR5 hal HX
        generalize attrW x.x = AX at *
        go_wp2_with (refine load_blk (k := 0) 92 (mvC x) (by rfl) rfl rfl HA5 (by kernel_rfl) (by kernel_rfl) rfl ?_)
        refine HR.out.mono ?_
        rintro e w6 ⟨rfl, b6⟩
        have HA6 := HA5.kept b6
        have HB6 : BO g yk w6 := isB_below HB5 b6
        have hg5 : g ≤ w5.heap.size := Nat.le_trans hsw b05.size
        have B6 := B5.trans (b6.mono hg5)
        have b06 := b05.trans (b6.mono b05.size)
        have HX6 := Lib.hid (HX5.out _ b06)
        have hg6 : g ≤ w6.heap.size := Nat.le_trans hg5 b6.size
        clear HA5 HB5 B5 b6 HR HX5 b05
        go_wp2_with (refine load_blk (k := 0) 92 (mvC x) (by rfl) rfl rfl HA6 (by kernel_rfl) (by kernel_rfl) rfl ?_)
        refine HX6.out.mono ?_
        rintro e w7 ⟨rfl, b7⟩
        have HB7 : BO g yk w7 := isB_below HB6 b7
        have B7 := B6.trans (b7.mono hg6)
        have HW7 := Lib.hid (HWS.out yk AX w7 HB7 (by omega))
        clear HA6 HB6 B6 b7 HX6 HWS
        go_wp2_with fail
        refine HW7.out.mono ?_
        rintro e w8 ⟨rfl, HB8, b8, K8⟩
        rw [← hnx.out] at HB8
        have B8 := B7.trans b8
        go_wp2
        go_roundw
        case rel => exact ⟨k + 1, by omega, by go_num, HB8, B8⟩
        case measure => simp [intOf]; omega
      · obtain rfl : k = m := by omega
        obtain ⟨hx, rfl, rfl, rfl⟩ := hbad.out rfl
        replace HR : Hid (Calls Tryd.prog 22 #[.agg (mvC x)] w5 fun e w' => e = .returned (.bool false) ∧ Below w5.heap.size w5 w') := by rw [← hx]; exact HR5.out
        clear hbad hOK hx HR5 HX hal
        go_wp2_with (refine load_blk (k := 0) 92 (mvC x) (by rfl) rfl rfl HA5 (by kernel_rfl) (by kernel_rfl) rfl ?_)
        refine HR.out.mono ?_
        rintro e w6 ⟨rfl, b6⟩
        have B6 := B5.trans (b6.mono (Nat.le_trans hsw b05.size))
        have hg6 : g ≤ w6.heap.size := Nat.le_trans (Nat.le_trans hsw b05.size) b6.size
        have F7 : Flt (w6.alloc (.cells #[.int .i64 1, .int .i64 k] 144)) w6.heap.size 1 k := heap_alloc_new w6 _
        have B7 := B6.alloc hg6 (.cells #[.int .i64 1, .int .i64 k] 144)
        go_wp2
        go_ret2
        exact ⟨_, rfl, Or.inr ⟨by decide, _, rfl, F7⟩, by rw [hg]; exact B7⟩
    · obtain rfl : k = hs.length := by omega
      obtain rfl : m = hs.length := by omega
      have q2 : decide ((hs.length : Int) < (hs.length : Int)) = false := decide_eq_false (by omega)
      obtain ⟨hX, rfl, rfl⟩ : X = [0, 1, 2] ++ attrsW (xs hs) ++ [0, 0, 0, 0] ∧ e0 = 0 ∧ pl = -1 := by
        rcases hend with ⟨_, r1, r2, r3⟩ | ⟨hk2, _⟩
        · exact ⟨r1, r2, r3⟩
        · omega
      rw [List.take_length] at HBk hsk
      have HX : Hid ([0, 1, 2] ++ attrsW (xs hs) ++ [0, 0, 0, 0] = X) := hX.symm
      have hXn : X ≠ [] := by rw [hX]; simp
      have hyl : ([0, 1, 2] ++ attrsW (xs hs) : List UInt8).length ≤ 3 + 138 * hs.length := by rw [List.length_append]; show 3 + (attrsW (xs hs)).length ≤ _; omega
      clear hX hend hsk
      generalize ([0, 1, 2] ++ attrsW (xs hs) : List UInt8) = yk at *
      have HW7 := Lib.hid (HWS.out yk [0, 0, 0, 0] wr HBk (by show yk.length + 4 ≤ _; omega))
      clear HWS HSL HOK HT
      go_wp2_with fail
      refine HW7.out.mono ?_
      rintro e w7 ⟨rfl, HB7, b7, K7⟩
      rw [HX.out] at HB7
      have B7 := Bk.trans b7
      have HS8 := Lib.hid (string_bo HB7 hXn)
      go_wp2_with fail
      refine HS8.out.mono ?_
      rintro e w8 ⟨rfl, k8, _⟩
      go_wp2
      go_ret2
      exact ⟨_, rfl, Or.inl ⟨rfl, rfl, rfl⟩, by rw [hg]; exact B7.trans k8⟩

/-- mvrp.Write: the bytes, or what is wrong first. -/
theorem mvWrite_any (a : Option Addr) (c : Nat) (hs : List MvH) (w : World) (h : MvsIn w a hs) :
    Calls Tryd.prog 64 #[.slice a hs.length c] w fun e w' => ∃ er, e = .returned (.tuple #[.string ⟨(mvX (xs hs)).toArray⟩, er]) ∧ ErrAs3 w' er (mvE (xs hs)).1 (mvE (xs hs)).2 ∧ Below w.heap.size w w' := by
  by_cases h1 : 40 < hs.length
  · have e1 := mvE_long (l := xs hs) (by rw [xs_len]; exact h1)
    rw [mvX_bad e1 (by decide), e1]
    refine (mvWrite_long a c hs.length h1 w).mono ?_
    rintro e w' ⟨rfl, hb⟩
    exact ⟨_, rfl, Or.inr ⟨rfl, by decide, rfl⟩, hb⟩
  · by_cases h0 : hs = []
    · subst h0
      refine (mvWrite_nil a c w).mono ?_
      rintro e w' ⟨rfl, hb⟩
      exact ⟨_, rfl, Or.inl (Or.inl ⟨rfl, rfl, rfl⟩), hb⟩
    · have hlo := List.length_pos_iff.2 h0
      have hne : xs hs ≠ [] := by simpa [xs] using h0
      rcases mv_or (xs hs) with ha | ⟨k, hk, hb, ha⟩
      · have e1 := mvE_ok (l := xs hs) (by rw [xs_len]; exact h1) ha
        rw [mvX_ok e1, e1]
        have eW : mvW (xs hs) = [0, 1, 2] ++ attrsW (xs hs) ++ [0, 0, 0, 0] := by unfold mvW; rw [if_neg hne, List.append_assoc]
        rw [eW]
        refine (mvWrite_some a c hs hs.length (Nat.le_refl _) hlo h1 (fun k hk _ => ha _ (List.mem_map.2 ⟨hs[k], List.getElem_mem hk, rfl⟩)) _ 0 (-1) (Or.inl ⟨rfl, rfl, rfl, rfl⟩) w h).mono ?_
        rintro e w' ⟨er, rfl, he, hb⟩
        exact ⟨er, rfl, Or.inl he, hb⟩
      · have e1 := mvE_bad (l := xs hs) (by rw [xs_len]; exact h1) hk hb ha
        rw [mvX_bad e1 (by decide), e1]
        rw [xs_len] at hk
        rw [xs_get hs k hk] at hb
        refine (mvWrite_some a c hs k (Nat.le_of_lt hk) hlo h1 (fun j hj hjk => ha _ (by
          rw [← xs_take]
          exact List.mem_map.2 ⟨hs[j], List.mem_take_iff_getElem.2 ⟨j, by omega, rfl⟩, rfl⟩)) [] 1 k (Or.inr ⟨hk, hb, rfl, rfl, rfl⟩) w h).mono ?_
        rintro e w' ⟨er, rfl, he, hb⟩
        exact ⟨er, rfl, Or.inl he, hb⟩

end Go.Proofs.YtdjljnpbnhampaaDoor
