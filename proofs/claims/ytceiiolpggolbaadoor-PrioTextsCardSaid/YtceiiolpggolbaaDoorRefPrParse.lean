/- The reference's BridgeParse at every text. -/
import Derived.Test.YtceiiolpggolbaaDoorPrParse
import Derived.Test.YtceiiolpggolbaaDoorBrRef
import Derived.Test.YtceiiolpggolbaaDoorRefParse
import Derived.Test.YtceiiolpggolbaaDoorRdNum
namespace Go.Proofs.YtceiiolpggolbaaDoor
open Go.RowKit
attribute [local go_sem ↓] Go.wp_at_zero Go.wp_at_succ
set_option linter.unusedSimpArgs false
set_option linter.unusedVariables false
set_option maxRecDepth 100000

theorem refPrParse_short (s : ByteArray) (w : World) (hs : s.size ≤ 100) (hn : ¬ (21 ≤ s.size ∧ s.size ≤ 28)) :
    Calls Tryd.prog 29 #[.string s] w fun e w' => ParseB s.data.toList (.int .i64 0) (.int .i64 3) e ∧ Below w.heap.size w w' := by
  have hls : s.data.toList.length = s.size := by simp
  have HN := Lib.hid (none_short (l := s.data.toList) (by rw [hls]; exact hn))
  have R1 := Blk.new w 25 (brC zBr)
  have B1 : Below w.heap.size w (w.alloc (.cells (brC zBr) 25)) := (Below.refl _ _).alloc (Nat.le_refl _) _
  have hw : IntKind.i64.wrap ((s.size : Int) - 17) = (s.size : Int) - 17 := by rw [IntKind.wrap_i64]; omega
  obtain ⟨m, hm⟩ : ∃ m, m = (s.size : Int) - 17 := ⟨_, rfl⟩
  rw [← hm] at hw
  have hmm := hm.symm
  have hc : m < 4 ∨ (¬ m < 4 ∧ 11 < m) := by omega
  rcases hc with c | ⟨c, c'⟩
  · have d1 : decide (m < 4) = true := decide_eq_true c
    clear hm hls
    go_enter Tryd.func29, Tryd.ntmps29
    go_wp2_with (first
      | (refine alloc_blk 25 (brC zBr) (by rfl) rfl Tryd.brZero ?_; generalize w.alloc (.cells (brC zBr) 25) = w1 at *)
      | (refine build_blk (t := 25) (brC zBr) (by rfl) rfl (by kernel_rfl) ?_)
      | (refine store_blk (k := 0) 25 (.agg (brC zBr)) (brC zBr) (by rfl) rfl rfl rfl R1 (by kernel_rfl) (show (8 : Nat) ≤ 8 from Nat.le_refl 8) (by rfl) (st_whole _ _ rfl) ?_; intro w10 R10 b10 g10; have B10 := B1.trans b10))
    exact bodyPost_ret (results_blk_tmp rfl rfl R10 (by kernel_rfl) (by kernel_rfl)) rfl ⟨Or.inr ⟨HN.out, rfl⟩, B10⟩
  · have d1 : decide (m < 4) = false := decide_eq_false c
    have d2 : decide (11 < m) = true := decide_eq_true c'
    clear hm hls
    go_enter Tryd.func29, Tryd.ntmps29
    go_wp2_with (first
      | (refine alloc_blk 25 (brC zBr) (by rfl) rfl Tryd.brZero ?_; generalize w.alloc (.cells (brC zBr) 25) = w1 at *)
      | (refine build_blk (t := 25) (brC zBr) (by rfl) rfl (by kernel_rfl) ?_)
      | (refine store_blk (k := 0) 25 (.agg (brC zBr)) (brC zBr) (by rfl) rfl rfl rfl R1 (by kernel_rfl) (show (8 : Nat) ≤ 8 from Nat.le_refl 8) (by rfl) (st_whole _ _ rfl) ?_; intro w10 R10 b10 g10; have B10 := B1.trans b10))
    exact bodyPost_ret (results_blk_tmp rfl rfl R10 (by kernel_rfl) (by kernel_rfl)) rfl ⟨Or.inr ⟨HN.out, rfl⟩, B10⟩

set_option maxHeartbeats 6400000 in
theorem refPrParse_long (s : ByteArray) (n : Nat) (w : World) (hT : HasTab w) (hz : HasTz w) (hsn : s.size = n + 17) (h4 : 4 ≤ n) (h11 : n ≤ 11) :
    Calls Tryd.prog 29 #[.string s] w fun e w' => ParseB s.data.toList (.int .i64 0) (.int .i64 3) e ∧ Below w.heap.size w w' := by
  have hls : s.data.toList.length = s.size := by simp
  have hfo : fore s.data.toList = n := by unfold fore; omega
  have R1 := Blk.new w 25 (brC zBr)
  have B1 : Below w.heap.size w (w.alloc (.cells (brC zBr) 25)) := (Below.refl _ _).alloc (Nat.le_refl _) _
  have hw : IntKind.i64.wrap ((s.size : Int) - 17) = (n : Int) := by rw [IntKind.wrap_i64]; omega
  have d1 : decide ((n : Int) < 4) = false := decide_eq_false (by omega)
  have d2 : decide (11 < (n : Int)) = false := decide_eq_false (by omega)
  have d3 : (0 : Int) ≤ (n : Int) := by omega
  have d4 : (n : Int) ≤ (s.size : Int) := by omega
  have ht : (s.extract n (n + 17)).data.toList = s.data.toList.drop n := by rw [extract_list, List.take_of_length_le (by simp; omega)]
  have HZ := hz.below B1
  have HT := hT.below B1
  go_enter Tryd.func29, Tryd.ntmps29
  go_wp2_with (refine alloc_blk 25 (brC zBr) (by rfl) rfl Tryd.brZero ?_; generalize w.alloc (.cells (brC zBr) 25) = w1 at *)
  have HTL := Lib.hid ht
  clear ht
  generalize s.extract n (n + 17) = t at *
  refine (refParse_any t _ HZ).mono ?_
  rintro e w2 ⟨hp, k2⟩
  have R2 := R1.kept k2
  have B2 := B1.trans (k2.mono B1.size)
  have lt2 : w.heap.size < w2.heap.size := R2.lt
  have HT2 := HT.below k2
  have HZ2 := HZ.below k2
  clear R1 B1 HT HZ k2
  unfold ParseQ at hp
  rw [HTL.out, ← hfo] at hp
  rcases hp with ⟨a, ha, hl, rfl⟩ | ⟨hno, rfl⟩
  · have HA := Lib.hid hl
    clear hl HTL
    unfold addrV
    go_upto_region 7 with (first
      | (refine alloc_blk 23 (c6 z6) (by rfl) rfl Tryd.adZero ?_)
      | (refine store_blk (k := 0) 23 (.agg (c6 a)) (c6 a) (by rfl) rfl rfl rfl (Blk.new w2 _ _) (by kernel_rfl) (show (6 : Nat) ≤ 6 from Nat.le_refl 6) (by rfl) (st_whole _ _ rfl) ?_; intro w3 A3 b3 g3; have R3 := (R2.alloc (.cells (c6 z6) 23)).below b3 lt2; have B3 := (B2.alloc B2.size (.cells (c6 z6) 23)).trans (b3.mono B2.size); have lt3 : w.heap.size < w3.heap.size := R3.lt))
    generalize w2.heap.size = A at *
    go_wp2_with fail
    go_loopw [7] (fun i wr => ∃ k : Nat, k ≤ 16 ∧ i = .int .i64 (4096 * (k : Int)) ∧ Hid (NoneB s.data.toList (4096 * (k : Int))) ∧ Blk wr w.heap.size 25 (brC zBr) ∧ Blk wr A 23 (c6 a) ∧ Below w.heap.size w wr) (fun i _ => 65536 - (intOf i).toNat)
    case atStart => exact ⟨0, by omega, rfl, NoneB.zero _, R3, A3, B3⟩
    case round =>
      obtain ⟨k, hk, rfl, HN, R4, A4, B4⟩ := hrel
      by_cases hlt : k < 16
      · obtain ⟨p, hp⟩ : ∃ p, p = 4096 * (k : Int) := ⟨_, rfl⟩
        have p0 : 0 ≤ p := by omega
        have p1 : p ≤ 61440 := by omega
        have hp2 : 4096 * ((k + 1 : Nat) : Int) = p + 4096 := by omega
        rw [← hp] at HN ⊢
        have HK := Lib.hid hp2
        have HS := Lib.hid (fun h => by have := NoneB.skip (l := s.data.toList) (k := k) (by rw [← hp]; exact HN.out) (by rw [← hp]; exact h); rw [← hp] at this; exact this : Lib.hasPrefix s.data.toList (headP p) = false → NoneB s.data.toList (p + 4096))
        have HM := Lib.hid (fun h => by have := NoneB.miss (l := s.data.toList) (k := k) (a := a) (by rw [← hp]; exact HN.out) HA.out (by rw [← hp]; exact h); rw [← hp] at this; exact this : ¬ (okB (guessP s.data.toList p a) = true ∧ textB (guessP s.data.toList p a) = s.data.toList) → NoneB s.data.toList (p + 4096))
        clear hp hp2 hk HN
        have d5 : decide (p ≤ 61440) = true := decide_eq_true p1
        have w5 : IntKind.i64.wrap (p + 4096) = p + 4096 := by rw [IntKind.wrap_i64]; omega
        have H1 := Lib.hid (fun W (h : HasTab W) => itoa_any p W h (by omega) (by omega))
        have L1 := (itoa_len5 p p0 (by omega)).1
        have hadd : ∀ W, (Op.stringOp .add ⟨(Lib.itoa p).toArray⟩ ⟨#[46]⟩).run Tryd.prog W = .ok (.string ⟨(headP p).toArray⟩) W := fun W => run_string_add_lists W (Lib.itoa p) [46] (by omega) (by decide)
        have hL := headP_len p p0 p1
        have hfit : Lib.hasPrefix s.data.toList (headP p) = true → (headP p).length ≤ n := fun h => by have := head_fits ha HA.out (by omega) h; omega
        have hmid : midP s.data.toList p = (s.data.toList.drop (headP p).length).take (n - (headP p).length) := by unfold midP; rw [hfo]
        have hg : guessP s.data.toList p a = ⟨p, (extF 0 (midP s.data.toList p) : Int), a⟩ := rfl
        rw [hg] at HM
        clear hg
        generalize Lib.itoa p = y at *
        generalize headP p = hd at *
        generalize midP s.data.toList p = mid at *
        obtain ⟨z, hz1⟩ : ∃ z, z = Lib.hasPrefix s.data.toList hd := ⟨_, rfl⟩
        have HPf : Hid (∀ W, Calls Tryd.prog 54 #[.string s, .string ⟨hd.toArray⟩] W fun e w' => e = .returned (.bool z) ∧ w' = W) := fun W => by
          rw [hz1]
          exact Tryd.strings_HasPrefix s ⟨hd.toArray⟩ W
        rw [← hz1] at HS hfit
        clear hz1
        have HMD := Lib.hid hmid
        clear hmid
        have HT4 := hT.below B4
        go_wp2_with fail
        refine (H1.out _ HT4).mono ?_
        rintro e w5 ⟨rfl, k5⟩
        have R5 := R4.kept k5
        have A5 := A4.kept k5
        have B5 := B4.trans (k5.mono B4.size)
        clear R4 A4 B4 k5 HT4
        go_wp2_with fail
        refine (HPf.out _).mono ?_
        rintro e w6 ⟨rfl, rfl⟩
        cases z with
        | false =>
          have HN := Lib.hid (HS.out rfl)
          clear HS HM hfit
          go_wp2
          go_roundw
          case rel => exact ⟨k + 1, by omega, by rw [HK.out], by rw [HK.out]; exact HN, R5, A5, B5⟩
          case measure => simp [intOf]; omega
        | true =>
          have hf := hfit rfl
          clear HS hfit
          have hms : (s.extract hd.length n).data.toList = mid := by rw [extract_list]; exact HMD.out.symm
          have hmz : (s.extract hd.length n).size = n - hd.length := by rw [ByteArray.size_extract]; omega
          obtain ⟨ms, hex⟩ : ∃ ms, s.extract hd.length n = ms := ⟨_, rfl⟩
          rw [hex] at hms hmz
          have hml : mid.length = ms.size := by rw [← hms]; simp
          have hm9 : ms.size ≤ 9 := by omega
          have HMZ := Lib.hid hmz
          clear hmz HMD
          have hcv := fun W => run_bytes_of_string (P := Tryd.prog) W 9 70 5 ms Tryd.underlying9 Tryd.underlying70 Tryd.underlying5
          have hB := byteRow_new w6 ms (grownCap w6 ms.size 0 5) 5
          have R7 := R5.alloc (Obj.cells (bytesRow ms (grownCap w6 ms.size 0 5)) 5 ((bytesRow ms (grownCap w6 ms.size 0 5)).size, (bytesRow ms (grownCap w6 ms.size 0 5)).size + 1))
          have A7 := A5.alloc (Obj.cells (bytesRow ms (grownCap w6 ms.size 0 5)) 5 ((bytesRow ms (grownCap w6 ms.size 0 5)).size, (bytesRow ms (grownCap w6 ms.size 0 5)).size + 1))
          have B7 := B5.alloc B5.size (Obj.cells (bytesRow ms (grownCap w6 ms.size 0 5)) 5 ((bytesRow ms (grownCap w6 ms.size 0 5)).size, (bytesRow ms (grownCap w6 ms.size 0 5)).size + 1))
          go_wp2
          rw [hms] at hB
          have R8 := R7.drew
          have A8 := A7.drew
          have B8 := B7.drew
          generalize (w6.alloc (Obj.cells (bytesRow ms (grownCap w6 ms.size 0 5)) 5 ((bytesRow ms (grownCap w6 ms.size 0 5)).size, (bytesRow ms (grownCap w6 ms.size 0 5)).size + 1))).drew = w8 at *
          clear R7 A7 B7 R5 A5 B5 hcv hms hex
          go_loop [9, 54] (fun x i => ∃ q : Nat, q ≤ ms.size ∧ i = .int .i64 q ∧ x = .int .i64 (extF 0 (mid.take q) : Nat)) (fun _ i => ms.size - (intOf i).toNat)
          case atStart => exact ⟨0, by omega, rfl, rfl⟩
          case round =>
            obtain ⟨q, hq, rfl, rfl⟩ := hrel
            by_cases hltq : q < ms.size
            · have hqm : q < mid.length := by omega
              obtain ⟨c, hc⟩ : ∃ c, mid[q]? = some c := ⟨_, List.getElem?_eq_getElem hqm⟩
              have hcell := hB q c hc
              have HE := Lib.hid (extF_take mid q c hc)
              have hEb := extF_bound mid q (by omega)
              have hc8 : c.toNat < 256 := c.toNat_lt
              generalize extF 0 (mid.take q) = x at *
              clear hc
              go_wp2_with fail
              refine (within_any _ _ _ _).mono ?_
              rintro e w9 ⟨rfl, rfl⟩
              by_cases hdg : 48 ≤ c.toNat ∧ c.toNat ≤ 57
              · rw [if_pos hdg] at HE
                have e1 : (decide ((48 : Int) ≤ (c.toNat : Int)) && decide ((c.toNat : Int) ≤ 57)) = true := by simp; omega
                have v1 : IntKind.i64.wrap ((x : Int) * 10) = (x : Int) * 10 := by rw [IntKind.wrap_i64]; omega
                have v2 : IntKind.i64.wrap ((x : Int) * 10 + (c.toNat : Int)) = (x : Int) * 10 + (c.toNat : Int) := by rw [IntKind.wrap_i64]; omega
                have v3 : IntKind.i64.wrap ((x : Int) * 10 + (c.toNat : Int) - 48) = ((x * 10 + (c.toNat - 48) : Nat) : Int) := by rw [IntKind.wrap_i64]; omega
                go_wp2
                go_round
                case rel => exact ⟨q + 1, by omega, by go_num, by rw [HE.out]; congr 1⟩
                case measure => simp [intOf]; omega
              · rw [if_neg hdg] at HE
                have e1 : (decide ((48 : Int) ≤ (c.toNat : Int)) && decide ((c.toNat : Int) ≤ 57)) = false := by
                  rw [Bool.eq_false_iff]
                  intro h
                  simp at h
                  omega
                go_wp2
                go_round
                case rel => exact ⟨q + 1, by omega, by go_num, by rw [HE.out]⟩
                case measure => simp [intOf]; omega
            · obtain rfl : q = ms.size := by omega
              have htk := List.take_of_length_le (l := mid) (i := ms.size) (by omega)
              rw [htk]
              clear htk
              obtain ⟨x, hx⟩ : ∃ x : Nat, x = extF 0 mid := ⟨_, rfl⟩
              rw [← hx] at HM ⊢
              clear hx hB
              have lt8 : w.heap.size < w8.heap.size := R8.lt
              have ltA : A < w8.heap.size := A8.lt
              go_wp2_with (first
                | (refine load_blk (k := 0) 23 (c6 a) (by rfl) rfl rfl A8 (by kernel_rfl) (by kernel_rfl) rfl ?_)
                | (refine build_blk (t := 25) (brC ⟨p, x, a⟩) (by rfl) rfl (by kernel_rfl) ?_)
                | (refine alloc_blk 25 (brC zBr) (by rfl) rfl Tryd.brZero ?_)
                | (refine store_blk (k := 0) 25 (.agg (brC ⟨p, x, a⟩)) (brC ⟨p, x, a⟩) (by rfl) rfl rfl rfl (Blk.new w8 _ _) (by kernel_rfl) (show (8 : Nat) ≤ 8 from Nat.le_refl 8) (by rfl) (st_whole _ _ rfl) ?_; intro w9 G9 b9 g9; have R9 := (R8.alloc (.cells (brC zBr) 25)).below b9 lt8; have A9 := (A8.alloc (.cells (brC zBr) 25)).below b9 ltA; have B9 := (B8.alloc B8.size (.cells (brC zBr) 25)).trans (b9.mono B8.size))
                | (refine load_blk (k := 0) 25 (brC ⟨p, x, a⟩) (by rfl) rfl rfl G9 (by kernel_rfl) (by kernel_rfl) rfl ?_))
              clear b9 g9 R8 A8 B8
              have HT9 := hT.below B9
              have HZ9 := hz.below B9
              cases hok : okB ⟨p, x, a⟩ with
              | false =>
                refine (refPrText_no _ hok _).mono ?_
                rintro e w11 ⟨rfl, k11⟩
                have R11 := R9.kept k11
                have A11 := A9.kept k11
                have B11 := B9.trans (k11.mono B9.size)
                have HN := Lib.hid (HM.out (fun h => by rw [hok] at h; cases h.1))
                clear R9 A9 B9 k11 HM
                go_wp2
                go_roundw
                case rel => exact ⟨k + 1, by omega, by rw [HK.out], by rw [HK.out]; exact HN, R11, A11, B11⟩
                case measure => simp [intOf]; omega
              | true =>
                refine (refPrText_yes _ hok ha _ HT9 HZ9).mono ?_
                rintro e w11 ⟨rfl, k11⟩
                have R11 := R9.kept k11
                have A11 := A9.kept k11
                have B11 := B9.trans (k11.mono B9.size)
                have G11 := G9.kept k11
                clear R9 A9 B9 G9 k11
                by_cases he : textB ⟨p, x, a⟩ = s.data.toList
                · have he1 : (textB ⟨p, x, a⟩ == s.toList) = true := by rw [beq_iff_eq, he, ByteArray.toList_eq]
                  go_wp2_with (first
                    | (refine load_blk (k := 0) 25 (brC ⟨p, x, a⟩) (by rfl) rfl rfl G11 (by kernel_rfl) (by kernel_rfl) rfl ?_)
                    | (refine store_blk (k := 0) 25 (.agg (brC ⟨p, x, a⟩)) (brC ⟨p, x, a⟩) (by rfl) rfl rfl rfl R11 (by kernel_rfl) (show (8 : Nat) ≤ 8 from Nat.le_refl 8) (by rfl) (st_whole _ _ rfl) ?_; intro w10 R10 b10 g10; have B10 := B11.trans b10))
                  exact bodyPost_ret (results_blk_tmp rfl rfl R10 (by kernel_rfl) (by kernel_rfl)) rfl ⟨Or.inl ⟨_, hok, ha, he, rfl⟩, B10⟩
                · have he1 : (textB ⟨p, x, a⟩ == s.toList) = false := by rw [beq_eq_false_iff_ne, ByteArray.toList_eq]; exact he
                  have HN := Lib.hid (HM.out (fun h => he h.2))
                  clear HM
                  go_wp2
                  go_roundw
                  case rel => exact ⟨k + 1, by omega, by rw [HK.out], by rw [HK.out]; exact HN, R11, A11, B11⟩
                  case measure => simp [intOf]; omega
      · obtain rfl : k = 16 := by omega
        have HN2 := Lib.hid (HN.out.all (by decide))
        go_wp2_with (first
          | (refine build_blk (t := 25) (brC zBr) (by rfl) rfl (by kernel_rfl) ?_)
          | (refine store_blk (k := 0) 25 (.agg (brC zBr)) (brC zBr) (by rfl) rfl rfl rfl R4 (by kernel_rfl) (show (8 : Nat) ≤ 8 from Nat.le_refl 8) (by rfl) (st_whole _ _ rfl) ?_; intro w10 R10 b10 g10; have B10 := B4.trans b10))
        exact bodyPost_ret (results_blk_tmp rfl rfl R10 (by kernel_rfl) (by kernel_rfl)) rfl ⟨Or.inr ⟨HN2.out, rfl⟩, B10⟩
  · have HN := Lib.hid (none_addr hno)
    go_wp2_with (first
      | (refine alloc_blk 23 (c6 z6) (by rfl) rfl Tryd.adZero ?_)
      | (refine store_blk (k := 0) 23 (.agg (c6 fun _ => 0)) (c6 fun _ => 0) (by rfl) rfl rfl rfl (Blk.new w2 _ _) (by kernel_rfl) (show (6 : Nat) ≤ 6 from Nat.le_refl 6) (by rfl) (st_whole _ _ rfl) ?_; intro w3 A3 b3 g3; have R3 := (R2.alloc (.cells (c6 z6) 23)).below b3 lt2; have B3 := (B2.alloc B2.size (.cells (c6 z6) 23)).trans (b3.mono B2.size); have lt3 : w.heap.size < w3.heap.size := R3.lt)
      | (refine build_blk (t := 25) (brC zBr) (by rfl) rfl (by kernel_rfl) ?_)
      | (refine store_blk (k := 0) 25 (.agg (brC zBr)) (brC zBr) (by rfl) rfl rfl rfl R3 (by kernel_rfl) (show (8 : Nat) ≤ 8 from Nat.le_refl 8) (by rfl) (st_whole _ _ rfl) ?_; intro w10 R10 b10 g10; have B10 := B3.trans b10))
    exact bodyPost_ret (results_blk_tmp rfl rfl R10 (by kernel_rfl) (by kernel_rfl)) rfl ⟨Or.inr ⟨HN.out, rfl⟩, B10⟩

theorem refPrParse_any (s : ByteArray) (w : World) (hT : HasTab w) (hz : HasTz w) (hs : s.size ≤ 100) :
    Calls Tryd.prog 29 #[.string s] w fun e w' => ParseB s.data.toList (.int .i64 0) (.int .i64 3) e ∧ Below w.heap.size w w' := by
  by_cases h : 21 ≤ s.size ∧ s.size ≤ 28
  · exact refPrParse_long s (s.size - 17) w hT hz (by omega) (by omega) (by omega)
  · exact refPrParse_short s w hs h

end Go.Proofs.YtceiiolpggolbaaDoor
