/- frame.Write at every frame that may be. -/
import Derived.Test.YtageodliabdhmaaDoorRefWrite
import Derived.Test.YtageodliabdhmaaDoorBuild2
import Derived.Test.YtageodliabdhmaaDoorTagType
import Derived.Test.YtageodliabdhmaaDoorShelf
namespace Go.Proofs.YtageodliabdhmaaDoor
open Go.RowKit
attribute [local go_sem ↓] Go.wp_at_zero Go.wp_at_succ
set_option linter.unusedSimpArgs false
set_option linter.unusedVariables false
set_option maxRecDepth 100000

theorem six_at (x : Nat → Nat) (hx : ∀ i, x i < 256) (j : Nat) (u : UInt8) (h : (six x)[j]? = some u) : (u.toNat : Int) = x j ∧ j < 6 := by
  have e : ∀ n, n < 256 → ((UInt8.ofNat n).toNat : Int) = (n : Int) := fun n hn => by rw [UInt8.toNat_ofNat']; omega
  have hj : j < 6 := by
    rcases Nat.lt_or_ge j 6 with q | q
    · exact q
    · rw [List.getElem?_eq_none (by exact q)] at h; cases h
  refine ⟨?_, hj⟩
  have : j = 0 ∨ j = 1 ∨ j = 2 ∨ j = 3 ∨ j = 4 ∨ j = 5 := by omega
  rcases this with rfl | rfl | rfl | rfl | rfl | rfl <;> (cases h; exact e _ (hx _))
theorem type_put (s : Bool) : ∃ X : Nat, typeN s = (X : Int) ∧ X < 256 ^ 2 ∧ putL X 2 = markL s := by
  cases s
  · exact ⟨33024, rfl, by decide, by decide⟩
  · exact ⟨34984, rfl, by decide, by decide⟩
theorem byteCells_app (a b : List UInt8) : Lib.byteCells (a ++ b) = Lib.byteCells a ++ Lib.byteCells b := by simp [Lib.byteCells]
theorem byteCells_len (a : List UInt8) : (Lib.byteCells a).length = a.length := by simp [Lib.byteCells]
/-- put, of the bytes so far. -/
theorem put_more (B b : Nat) (y : List UInt8) (v : Int) (n : Nat) (w : World) (h : Lib.IsBuilder 46 5 B b (Lib.byteCells y) w) (h1 : 1 ≤ n) (h7 : n ≤ 7) (h0 : 0 ≤ v) (hf : v.toNat < 256 ^ n) (hlen : y.length ≤ 900000) (hBw : B ≤ w.heap.size) :
    Calls Tryd.prog 13 #[.int .i64 v, .int .i64 n, .pointer (some ⟨b, 0, none⟩)] w fun e w' => e = .returned (.tuple #[]) ∧ (Lib.IsBuilder 46 5 B b (Lib.byteCells (y ++ putL v.toNat n)) w' ∧ Below B w w') := by
  obtain ⟨X, rfl⟩ := Int.eq_ofNat_of_zero_le h0
  rw [byteCells_app]
  exact put_any B b (Lib.byteCells y) X n w h h1 h7 hf (by rw [byteCells_len]; exact hlen) hBw

set_option maxHeartbeats 6400000 in
theorem write_yes (f : Fr) (w : World) (hf : FrIn w f) (hd8 : ∀ i, f.d i < 256) (hs8 : ∀ i, f.s i < 256) (hr : rightB f = true) (hst : stackB f.tl = true) :
    Calls Tryd.prog 5 #[frV f] w fun e w' => e = .returned (.tuple #[.string ⟨(writeL f).toArray⟩, .nilIface]) ∧ Below w.heap.size w w' := by
  have hb0 : Below w.heap.size w (w.alloc (.cells (frC f) 26)) := (Below.refl _ _).alloc (Nat.le_refl _) _
  have hF0 := HasF.new w f
  have hI0 := hf.below hb0
  have hfew := hf.few
  have hshort := hf.short
  have HRR : Hid (∀ W, FrIn W f → Calls Tryd.prog 12 #[frV f] W fun e w' => e = .returned (.bool true) ∧ Below W.heap.size W w') := fun W h => by
    have q := right_frame f W h
    rw [hr] at q
    exact q
  have hall : Hid (∀ (j : Nat) t, f.tl[j]? = some t → okT t = true) := fun j t h => by
    simp only [stackB, Bool.and_eq_true] at hst
    exact List.all_eq_true.1 hst.1 t (List.mem_of_getElem? h)
  have hkb : Hid (kindB f = true) := by
    unfold rightB at hr
    simp only [Bool.and_eq_true] at hr
    exact hr.2.2
  have hmf : ∀ (fn : Fn) (first cap : Array Value) (w : World), (Instr.makeFunc fn first cap).run Tryd.prog w = .ok (.func fn first cap) w := fun _ _ _ _ => rfl
  have HIN : Hid (∀ W, Calls Tryd.prog 19 #[frV f] W fun e w' => e = .returned (.int .i64 (hdI f.k + f.bo.size)) ∧ Below W.heap.size W w') := fun W => inner_any f W hshort
  clear hst hr
  unfold frV frC at *
  go_enter Tryd.func5, Tryd.ntmps5
  go_upto_region 1 with (fail)
  generalize w.alloc (.cells #[.int .u8 (f.d 0), .int .u8 (f.d 1), .int .u8 (f.d 2), .int .u8 (f.d 3), .int .u8 (f.d 4), .int .u8 (f.d 5), .int .u8 (f.s 0), .int .u8 (f.s 1), .int .u8 (f.s 2), .int .u8 (f.s 3), .int .u8 (f.s 4), .int .u8 (f.s 5), .slice f.ta f.tl.length f.tc, .int .i64 f.k, .int .i64 f.t, .int .i64 f.da, .int .i64 f.sa, .int .i64 f.ct, .int .i64 f.ou, .int .i64 f.pi, .string f.bo] 26) = w1 at *
  go_upto_region 3 with (first | ((refine load_fr _ f w.heap.size (by rfl) rfl rfl hF0 ?_)) | (go_at_call 12; (with_reducible refine (HRR.out _ ?_).mono ?_); (exact hI0); rintro e w2 ⟨rfl, b2⟩))
  have hF2 : HasF w2 w.heap.size f := hF0.below b2 hF0.lt
  have B2 : Below w.heap.size w w2 := hb0.trans (b2.mono hb0.size)
  have hI2 : FrIn w2 f := hI0.below b2
  clear b2 hF0 hI0 hb0 HRR
  have hA3 : Below w2.heap.size w2 (w2.alloc (.cells #[.pointer none, .slice none 0 0] 46)) := (Below.refl _ _).alloc (Nat.le_refl _) _
  have IB3 := build_new w2
  have hF3 := hF2.below hA3 hF2.lt
  have hI3 := hI2.below hA3
  have B3 := B2.trans (hA3.mono B2.size)
  have hsz3 := hA3.size
  have hPb : w.heap.size < w2.heap.size := hF2.lt
  clear hF2 hI2 B2 hA3
  go_upto_region 5 with (fail)
  generalize w2.alloc (.cells #[.pointer none, .slice none 0 0] 46) = w3 at *
  generalize w2.heap.size = b at *
  go_wp2_with fail
  refine (build_bytes b b w.heap.size 0 [] (six f.d) _ IB3 (by show 0 < 6; decide) (by show 0 + 6 ≤ 1000000; decide) hsz3 hPb (fun j u h => by obtain ⟨e, hj⟩ := six_at f.d hd8 j u h; rw [e]; exact six_d hF3 j hj)).mono ?_
  rintro e w4 ⟨rfl, IB4', b4⟩
  have IB4 : Lib.IsBuilder 46 5 b b (Lib.byteCells (six f.d)) w4 := IB4'
  have hF4 := hF3.below b4 hPb
  have B4 := B3.trans (b4.mono (Nat.le_of_lt hPb))
  have hb4 := Nat.le_trans hsz3 b4.size
  have hwb : w.heap.size ≤ b := Nat.le_of_lt hPb
  clear IB4' b4 hF3 B3 hI3 IB3 hsz3
  go_wp2_with fail
  refine (build_bytes b b w.heap.size 6 (Lib.byteCells (six f.d)) (six f.s) _ IB4 (by show 0 < 6; decide) (by show 6 + 6 ≤ 1000000; decide) hb4 hPb (fun j u h => by obtain ⟨e, hj⟩ := six_at f.s hs8 j u h; rw [e]; exact six_s hF4 j hj)).mono ?_
  rintro e w5 ⟨rfl, IB5', b5⟩
  have IB5 : Lib.IsBuilder 46 5 b b (Lib.byteCells (hdL f 0)) w5 := by
    have e1 : hdL f 0 = six f.d ++ six f.s := by simp [hdL]
    rw [e1, byteCells_app]
    exact IB5'
  have hF5 := hF4.below b5 hPb
  have B5 := B4.trans (b5.mono hwb)
  have hb5 := Nat.le_trans hb4 b5.size
  clear IB5' b5 hF4 B4 IB4 hb4
  have c12 : w5.cell? ⟨w.heap.size, 12, none⟩ = some (.slice f.ta f.tl.length f.tc) := (hF5.c 12).trans rfl
  go_wp2_with fail
  clear c12
  go_loopw [24] (fun i wr => ∃ k : Nat, k ≤ f.tl.length ∧ i = .int .i64 k ∧ Lib.IsBuilder 46 5 b b (Lib.byteCells (hdL f k)) wr ∧ HasF wr w.heap.size f ∧ Below w.heap.size w wr ∧ b ≤ wr.heap.size) (fun i _ => f.tl.length - (intOf i).toNat)
  case atStart => exact ⟨0, by omega, rfl, IB5, hF5, B5, hb5⟩
  case round =>
    obtain ⟨k, hk, rfl, IBk, hFk, Bk, hbk⟩ := hrel
    by_cases hlt : k < f.tl.length
    · obtain ⟨t, ht⟩ : ∃ t, t = f.tl[k] := ⟨_, rfl⟩
      have htk : f.tl[k]? = some t := by rw [ht]; exact List.getElem?_eq_getElem hlt
      have hokt := hall.out k t htk
      obtain ⟨pk, hpk⟩ : ∃ pk, pk = packN t := ⟨_, rfl⟩
      have hple := pack_le t hokt
      rw [← hpk] at hple
      obtain ⟨mk, hmk⟩ : ∃ mk, mk = markL t.s := ⟨_, rfl⟩
      have hml : mk.length = 2 := by rw [hmk]; unfold markL; split <;> rfl
      have HT : Hid (hdL f (k + 1) = hdL f k ++ mk ++ putL pk.toNat 2) := by show _ = _; rw [hdL_succ f k t htk, hmk, hpk, List.append_assoc]
      have hyl := hdL_len f k
      generalize hdL f k = y at *
      have hPK : Hid (∀ W, Calls Tryd.prog 17 #[tagV t] W fun e w' => e = .returned (.tuple #[.int .i64 pk, .nilIface]) ∧ Below W.heap.size W w') := fun W => by rw [hpk]; exact pack_yes t hokt W
      obtain ⟨X, hX, hX2, hXp⟩ := type_put t.s
      have hTT : Hid (∀ W, Calls Tryd.prog 18 #[.bool t.s] W fun e w' => e = .returned (.int .i64 (X : Int)) ∧ Below W.heap.size W w') := fun W => by
        rw [← hX]
        exact (tagType_any t.s W).mono fun e w' h => ⟨h.1, h.2 ▸ Below.refl _ _⟩
      obtain ⟨ab, ao, hta, hbl, hat⟩ : ∃ b lo, f.ta = some ⟨b, lo, none⟩ ∧ b < wr.heap.size ∧ TagsAt wr b lo f.tl := by
        rcases (hf.below Bk).tags with h | h
        · rw [h] at hlt; simp at hlt
        · exact h
      obtain ⟨q0, q1, q2, q3⟩ := hat k hlt
      rw [← ht] at q0 q1 q2 q3
      have hB4 := Bk.alloc Bk.size (.cells #[.bool t.s, .int .i64 t.p, .bool t.d, .int .i64 t.v] 39)
      have hA4 : Below wr.heap.size wr (wr.alloc (.cells #[.bool t.s, .int .i64 t.p, .bool t.d, .int .i64 t.v] 39)) := (Below.refl _ _).alloc (Nat.le_refl _) _
      have hF4 := hFk.below hA4 hFk.lt
      have IB4 := isB_below IBk hA4
      have hb4 := Nat.le_trans hbk hA4.size
      have hT4 : HasT (wr.alloc (.cells #[.bool t.s, .int .i64 t.p, .bool t.d, .int .i64 t.v] 39)) wr.heap.size t := heap_alloc_new wr _
      have b1 : (k : Int) < (f.tl.length : Int) := by omega
      have b2 : (0 : Int) ≤ (k : Int) := by omega
      clear hat hA4 ht IBk hFk Bk
      go_wp2_with fail
      refine (hPK.out _).mono ?_
      rintro e w6 ⟨rfl, b6⟩
      have T6 : HasT w6 wr.heap.size t := hT4.below b6 hT4.lt
      have hF6 : HasF w6 w.heap.size f := hF4.below b6 hF4.lt
      have IB6 := isB_below IB4 b6
      have B6 := hB4.trans (b6.mono hB4.size)
      have hb6 := Nat.le_trans hb4 b6.size
      clear hT4 hF4 IB4 hB4 b6 q0 q1 q2 q3 hPK hta hbl htk hokt hpk hb4
      have s0 := T6.c0
      go_wp2_with fail
      refine (hTT.out _).mono ?_
      rintro e w7 ⟨rfl, b7⟩
      have hF7 : HasF w7 w.heap.size f := hF6.below b7 hF6.lt
      have IB7 := isB_below IB6 b7
      have B7 := B6.trans (b7.mono B6.size)
      have hb7 := Nat.le_trans hb6 b7.size
      clear hF6 IB6 B6 hb6 b7 s0 T6 hTT
      go_wp2_with fail
      refine (put_more b b y (X : Int) 2 _ IB7 (by decide) (by decide) (by omega) hX2 (by omega) hb7).mono ?_
      rintro e w8 ⟨rfl, IB8, b8⟩
      rw [Int.toNat_natCast, hXp, ← hmk] at IB8
      have hF8 : HasF w8 w.heap.size f := hF7.below b8 hPb
      have B8 := B7.trans (b8.mono hwb)
      have hb8 := Nat.le_trans hb7 b8.size
      clear hF7 IB7 B7 hb7 b8
      go_wp2_with fail
      refine (put_more b b (y ++ mk) pk 2 _ IB8 (by decide) (by decide) hple.1 (by omega) (by rw [List.length_append]; omega) hb8).mono ?_
      rintro e w9 ⟨rfl, IB9, b9⟩
      have hF9 : HasF w9 w.heap.size f := hF8.below b9 hPb
      have B9 := B8.trans (b9.mono hwb)
      have hb9 := Nat.le_trans hb8 b9.size
      clear hF8 IB8 B8 hb8 b9 hX hXp hX2 hmk
      go_wp2
      go_roundw
      case rel => exact ⟨k + 1, by omega, by go_num, by rw [HT.out]; exact IB9, hF9, B9, hb9⟩
      case measure => simp [intOf]; omega
    · obtain rfl : k = f.tl.length := by omega
      have c13 : wr.cell? ⟨w.heap.size, 13, none⟩ = some (.int .i64 f.k) := (hFk.c 13).trans rfl
      obtain ⟨Y20, hY20⟩ : ∃ Y, Y = hdL f f.tl.length := ⟨_, rfl⟩
      have lY20 : Y20.length ≤ 100 := by rw [hY20]; have := hdL_len f f.tl.length; omega
      rw [← hY20] at IBk
      have IB20 := IBk
      have hF20 := hFk
      have B20 := Bk
      have hb20 := hbk
      clear IBk hFk Bk hbk hk hlt hF5 B5 IB5 hb5 hf
      generalize wr = w20 at *
      have hdl := hdI_le f.k
      rcases right_parts f hkb.out with ⟨hk1, t0, t1⟩ | ⟨hk1, hk2, h1, h2, h3⟩ | ⟨hk1, hk2, hk3, h1, h2⟩
      · have cI : w20.cell? ⟨w.heap.size, 14, none⟩ = some (.int .i64 f.t) := (hF20.c 14).trans rfl
        go_wp2_with fail
        refine (put_more b b Y20 f.t 2 _ IB20 (by decide) (by decide) t0 (by omega) (by omega) hb20).mono ?_
        rintro e w21 ⟨rfl, IB21, b21⟩
        have hF21 := hF20.below b21 hPb
        have B21 := B20.trans (b21.mono hwb)
        have hb21 := Nat.le_trans hb20 b21.size
        obtain ⟨Y21, hY21⟩ : ∃ Y, Y = Y20 ++ putL (Int.toNat f.t) 2 := ⟨_, rfl⟩
        rw [← hY21] at IB21
        have lY21 : Y21.length = Y20.length + 2 := by rw [hY21, List.length_append, putL_length]
        clear IB20 hF20 B20 hb20 b21 cI
        have cI : w21.cell? ⟨w.heap.size, 20, none⟩ = some (.string f.bo) := (hF21.c 20).trans rfl
        have hfin : Y21 ++ f.bo.data.toList = writeL f := by
          rw [write_1 f hk1, hY21, hY20]
        go_wp2_with fail
        refine (build_write b b (Lib.byteCells Y21) f.bo _ IB21 (by rw [byteCells_len]; omega) hb21).mono ?_
        rintro e w50 ⟨rfl, IB50', b50⟩
        have IB50 : Lib.IsBuilder 46 5 b b (Lib.byteCells (writeL f)) w50 := by
          rw [← hfin, byteCells_app]
          exact IB50'
        have B50 := B21.trans (b50.mono hwb)
        have hb50 := Nat.le_trans hb21 b50.size
        clear IB50' IB21 hF21 cI
        go_wp2_with fail
        refine (Tryd.Builder_String_any b b (writeL f) _ IB50 hb50).mono ?_
        rintro e w51 ⟨rfl, b51⟩
        have B51 := B50.trans (b51.mono hwb)
        go_wp2
        go_ret2
        exact ⟨rfl, B51⟩
      · go_wp2_with (refine load_fr _ f w.heap.size (by rfl) rfl rfl hF20 ?_)
        refine (HIN.out _).mono ?_
        rintro e w21 ⟨rfl, b21⟩
        have hF21 := hF20.below b21 hF20.lt
        have IB21 := isB_below IB20 b21
        have B21 := B20.trans (b21.mono B20.size)
        have hb21 := Nat.le_trans hb20 b21.size
        obtain ⟨Y21, hY21⟩ : ∃ Y, Y = Y20 := ⟨_, rfl⟩
        rw [← hY21] at IB21
        have lY21 : Y21.length ≤ 100 := by rw [hY21]; exact lY20
        clear hF20 IB20 B20 hb20 b21
        go_wp2_with fail
        refine (put_more b b Y21 (hdI f.k + (f.bo.size : Int)) 2 _ IB21 (by decide) (by decide) (by omega) (by omega) (by omega) hb21).mono ?_
        rintro e w22 ⟨rfl, IB22, b22⟩
        have hF22 := hF21.below b22 hPb
        have B22 := B21.trans (b22.mono hwb)
        have hb22 := Nat.le_trans hb21 b22.size
        obtain ⟨Y22, hY22⟩ : ∃ Y, Y = Y21 ++ putL (Int.toNat (hdI f.k + (f.bo.size : Int))) 2 := ⟨_, rfl⟩
        rw [← hY22] at IB22
        have lY22 : Y22.length = Y21.length + 2 := by rw [hY22, List.length_append, putL_length]
        clear IB21 hF21 B21 hb21 b22
        have cI : w22.cell? ⟨w.heap.size, 15, none⟩ = some (.int .i64 f.da) := (hF22.c 15).trans rfl
        go_wp2_with fail
        refine (put_more b b Y22 f.da 1 _ IB22 (by decide) (by decide) h1.1 (by omega) (by omega) hb22).mono ?_
        rintro e w23 ⟨rfl, IB23, b23⟩
        have hF23 := hF22.below b23 hPb
        have B23 := B22.trans (b23.mono hwb)
        have hb23 := Nat.le_trans hb22 b23.size
        obtain ⟨Y23, hY23⟩ : ∃ Y, Y = Y22 ++ putL (Int.toNat f.da) 1 := ⟨_, rfl⟩
        rw [← hY23] at IB23
        have lY23 : Y23.length = Y22.length + 1 := by rw [hY23, List.length_append, putL_length]
        clear IB22 hF22 B22 hb22 b23 cI
        have cI : w23.cell? ⟨w.heap.size, 16, none⟩ = some (.int .i64 f.sa) := (hF23.c 16).trans rfl
        go_wp2_with fail
        refine (put_more b b Y23 f.sa 1 _ IB23 (by decide) (by decide) h2.1 (by omega) (by omega) hb23).mono ?_
        rintro e w24 ⟨rfl, IB24, b24⟩
        have hF24 := hF23.below b24 hPb
        have B24 := B23.trans (b24.mono hwb)
        have hb24 := Nat.le_trans hb23 b24.size
        obtain ⟨Y24, hY24⟩ : ∃ Y, Y = Y23 ++ putL (Int.toNat f.sa) 1 := ⟨_, rfl⟩
        rw [← hY24] at IB24
        have lY24 : Y24.length = Y23.length + 1 := by rw [hY24, List.length_append, putL_length]
        clear IB23 hF23 B23 hb23 b24 cI
        have cI : w24.cell? ⟨w.heap.size, 17, none⟩ = some (.int .i64 f.ct) := (hF24.c 17).trans rfl
        go_wp2_with fail
        refine (put_more b b Y24 f.ct 1 _ IB24 (by decide) (by decide) h3.1 (by omega) (by omega) hb24).mono ?_
        rintro e w25 ⟨rfl, IB25, b25⟩
        have hF25 := hF24.below b25 hPb
        have B25 := B24.trans (b25.mono hwb)
        have hb25 := Nat.le_trans hb24 b25.size
        obtain ⟨Y25, hY25⟩ : ∃ Y, Y = Y24 ++ putL (Int.toNat f.ct) 1 := ⟨_, rfl⟩
        rw [← hY25] at IB25
        have lY25 : Y25.length = Y24.length + 1 := by rw [hY25, List.length_append, putL_length]
        clear IB24 hF24 B24 hb24 b25 cI
        have cI : w25.cell? ⟨w.heap.size, 20, none⟩ = some (.string f.bo) := (hF25.c 20).trans rfl
        have hfin : Y25 ++ f.bo.data.toList = writeL f := by
          have hil : (innerL f).length = (hdI f.k + (f.bo.size : Int)).toNat := by
            have hk : f.k = 2 := by simpa using hk2
            rw [inner_2 f hk2]
            have hs : f.bo.data.toList.length = f.bo.size := by simp
            simp only [List.length_append, putL_length, hs]
            have : hdI f.k = 3 := by unfold hdI; rw [if_pos hk]
            omega
          rw [write_n f hk1, hil, inner_2 f hk2, hY25, hY24, hY23, hY22, hY21, hY20]
          simp
        go_wp2_with fail
        refine (build_write b b (Lib.byteCells Y25) f.bo _ IB25 (by rw [byteCells_len]; omega) hb25).mono ?_
        rintro e w50 ⟨rfl, IB50', b50⟩
        have IB50 : Lib.IsBuilder 46 5 b b (Lib.byteCells (writeL f)) w50 := by
          rw [← hfin, byteCells_app]
          exact IB50'
        have B50 := B25.trans (b50.mono hwb)
        have hb50 := Nat.le_trans hb25 b50.size
        clear IB50' IB25 hF25 cI
        go_wp2_with fail
        refine (Tryd.Builder_String_any b b (writeL f) _ IB50 hb50).mono ?_
        rintro e w51 ⟨rfl, b51⟩
        have B51 := B50.trans (b51.mono hwb)
        go_wp2
        go_ret2
        exact ⟨rfl, B51⟩
      · go_wp2_with (refine load_fr _ f w.heap.size (by rfl) rfl rfl hF20 ?_)
        refine (HIN.out _).mono ?_
        rintro e w21 ⟨rfl, b21⟩
        have hF21 := hF20.below b21 hF20.lt
        have IB21 := isB_below IB20 b21
        have B21 := B20.trans (b21.mono B20.size)
        have hb21 := Nat.le_trans hb20 b21.size
        obtain ⟨Y21, hY21⟩ : ∃ Y, Y = Y20 := ⟨_, rfl⟩
        rw [← hY21] at IB21
        have lY21 : Y21.length ≤ 100 := by rw [hY21]; exact lY20
        clear hF20 IB20 B20 hb20 b21
        go_wp2_with fail
        refine (put_more b b Y21 (hdI f.k + (f.bo.size : Int)) 2 _ IB21 (by decide) (by decide) (by omega) (by omega) (by omega) hb21).mono ?_
        rintro e w22 ⟨rfl, IB22, b22⟩
        have hF22 := hF21.below b22 hPb
        have B22 := B21.trans (b22.mono hwb)
        have hb22 := Nat.le_trans hb21 b22.size
        obtain ⟨Y22, hY22⟩ : ∃ Y, Y = Y21 ++ putL (Int.toNat (hdI f.k + (f.bo.size : Int))) 2 := ⟨_, rfl⟩
        rw [← hY22] at IB22
        have lY22 : Y22.length = Y21.length + 2 := by rw [hY22, List.length_append, putL_length]
        clear IB21 hF21 B21 hb21 b22
        go_wp2_with fail
        refine (put_more b b Y22 (170 : Int) 1 _ IB22 (by decide) (by decide) (by decide) (by decide) (by omega) hb22).mono ?_
        rintro e w23 ⟨rfl, IB23, b23⟩
        have hF23 := hF22.below b23 hPb
        have B23 := B22.trans (b23.mono hwb)
        have hb23 := Nat.le_trans hb22 b23.size
        obtain ⟨Y23, hY23⟩ : ∃ Y, Y = Y22 ++ putL (Int.toNat (170 : Int)) 1 := ⟨_, rfl⟩
        rw [← hY23] at IB23
        have lY23 : Y23.length = Y22.length + 1 := by rw [hY23, List.length_append, putL_length]
        clear IB22 hF22 B22 hb22 b23
        go_wp2_with fail
        refine (put_more b b Y23 (170 : Int) 1 _ IB23 (by decide) (by decide) (by decide) (by decide) (by omega) hb23).mono ?_
        rintro e w24 ⟨rfl, IB24, b24⟩
        have hF24 := hF23.below b24 hPb
        have B24 := B23.trans (b24.mono hwb)
        have hb24 := Nat.le_trans hb23 b24.size
        obtain ⟨Y24, hY24⟩ : ∃ Y, Y = Y23 ++ putL (Int.toNat (170 : Int)) 1 := ⟨_, rfl⟩
        rw [← hY24] at IB24
        have lY24 : Y24.length = Y23.length + 1 := by rw [hY24, List.length_append, putL_length]
        clear IB23 hF23 B23 hb23 b24
        go_wp2_with fail
        refine (put_more b b Y24 (3 : Int) 1 _ IB24 (by decide) (by decide) (by decide) (by decide) (by omega) hb24).mono ?_
        rintro e w25 ⟨rfl, IB25, b25⟩
        have hF25 := hF24.below b25 hPb
        have B25 := B24.trans (b25.mono hwb)
        have hb25 := Nat.le_trans hb24 b25.size
        obtain ⟨Y25, hY25⟩ : ∃ Y, Y = Y24 ++ putL (Int.toNat (3 : Int)) 1 := ⟨_, rfl⟩
        rw [← hY25] at IB25
        have lY25 : Y25.length = Y24.length + 1 := by rw [hY25, List.length_append, putL_length]
        clear IB24 hF24 B24 hb24 b25
        have cI : w25.cell? ⟨w.heap.size, 18, none⟩ = some (.int .i64 f.ou) := (hF25.c 18).trans rfl
        go_wp2_with fail
        refine (put_more b b Y25 f.ou 3 _ IB25 (by decide) (by decide) h1.1 (by omega) (by omega) hb25).mono ?_
        rintro e w26 ⟨rfl, IB26, b26⟩
        have hF26 := hF25.below b26 hPb
        have B26 := B25.trans (b26.mono hwb)
        have hb26 := Nat.le_trans hb25 b26.size
        obtain ⟨Y26, hY26⟩ : ∃ Y, Y = Y25 ++ putL (Int.toNat f.ou) 3 := ⟨_, rfl⟩
        rw [← hY26] at IB26
        have lY26 : Y26.length = Y25.length + 3 := by rw [hY26, List.length_append, putL_length]
        clear IB25 hF25 B25 hb25 b26 cI
        have cI : w26.cell? ⟨w.heap.size, 19, none⟩ = some (.int .i64 f.pi) := (hF26.c 19).trans rfl
        go_wp2_with fail
        refine (put_more b b Y26 f.pi 2 _ IB26 (by decide) (by decide) h2.1 (by omega) (by omega) hb26).mono ?_
        rintro e w27 ⟨rfl, IB27, b27⟩
        have hF27 := hF26.below b27 hPb
        have B27 := B26.trans (b27.mono hwb)
        have hb27 := Nat.le_trans hb26 b27.size
        obtain ⟨Y27, hY27⟩ : ∃ Y, Y = Y26 ++ putL (Int.toNat f.pi) 2 := ⟨_, rfl⟩
        rw [← hY27] at IB27
        have lY27 : Y27.length = Y26.length + 2 := by rw [hY27, List.length_append, putL_length]
        clear IB26 hF26 B26 hb26 b27 cI
        have cI : w27.cell? ⟨w.heap.size, 20, none⟩ = some (.string f.bo) := (hF27.c 20).trans rfl
        have hfin : Y27 ++ f.bo.data.toList = writeL f := by
          have hil : (innerL f).length = (hdI f.k + (f.bo.size : Int)).toNat := by
            have hk : f.k = 3 := by simpa using hk3
            rw [inner_3 f hk2]
            have hs : f.bo.data.toList.length = f.bo.size := by simp
            simp only [List.length_append, putL_length, hs]
            have : hdI f.k = 8 := by unfold hdI; rw [hk]; rfl
            simp only [List.length_cons, List.length_nil]
            omega
          rw [write_n f hk1, hil, inner_3 f hk2, hY27, hY26, hY25, hY24, hY23, hY22, hY21, hY20]
          rw [show putL (Int.toNat 170) 1 = [170] from by decide, show putL (Int.toNat 3) 1 = [3] from by decide]
          simp
        go_wp2_with fail
        refine (build_write b b (Lib.byteCells Y27) f.bo _ IB27 (by rw [byteCells_len]; omega) hb27).mono ?_
        rintro e w50 ⟨rfl, IB50', b50⟩
        have IB50 : Lib.IsBuilder 46 5 b b (Lib.byteCells (writeL f)) w50 := by
          rw [← hfin, byteCells_app]
          exact IB50'
        have B50 := B27.trans (b50.mono hwb)
        have hb50 := Nat.le_trans hb27 b50.size
        clear IB50' IB27 hF27 cI
        go_wp2_with fail
        refine (Tryd.Builder_String_any b b (writeL f) _ IB50 hb50).mono ?_
        rintro e w51 ⟨rfl, b51⟩
        have B51 := B50.trans (b51.mono hwb)
        go_wp2
        go_ret2
        exact ⟨rfl, B51⟩

set_option maxHeartbeats 1600000 in
theorem write_no (f : Fr) (w : World) (hf : FrIn w f) (hr : rightB f = false) :
    Calls Tryd.prog 5 #[frV f] w fun e w' => e = .returned (.tuple #[.string ⟨#[]⟩, .iface 27 (.int .i64 1)]) ∧ Below w.heap.size w w' := by
  have hb0 : Below w.heap.size w (w.alloc (.cells (frC f) 26)) := (Below.refl _ _).alloc (Nat.le_refl _) _
  have hF0 := HasF.new w f
  have hI0 := hf.below hb0
  have HRR : Hid (∀ W, FrIn W f → Calls Tryd.prog 12 #[frV f] W fun e w' => e = .returned (.bool false) ∧ Below W.heap.size W w') := fun W h => by
    have q := right_frame f W h
    rw [hr] at q
    exact q
  clear hr
  unfold frV frC at *
  go_enter Tryd.func5, Tryd.ntmps5
  go_upto_region 1 with (fail)
  generalize w.alloc (.cells #[.int .u8 (f.d 0), .int .u8 (f.d 1), .int .u8 (f.d 2), .int .u8 (f.d 3), .int .u8 (f.d 4), .int .u8 (f.d 5), .int .u8 (f.s 0), .int .u8 (f.s 1), .int .u8 (f.s 2), .int .u8 (f.s 3), .int .u8 (f.s 4), .int .u8 (f.s 5), .slice f.ta f.tl.length f.tc, .int .i64 f.k, .int .i64 f.t, .int .i64 f.da, .int .i64 f.sa, .int .i64 f.ct, .int .i64 f.ou, .int .i64 f.pi, .string f.bo] 26) = w1 at *
  go_wp2_with (refine load_fr _ f w.heap.size (by rfl) rfl rfl hF0 ?_)
  refine (HRR.out _ hI0).mono ?_
  rintro e w2 ⟨rfl, b2⟩
  have B2 : Below w.heap.size w w2 := hb0.trans (b2.mono hb0.size)
  clear hF0 hI0 hb0 HRR b2 hf
  go_wp2
  go_ret2
  exact ⟨rfl, B2⟩

set_option maxHeartbeats 1600000 in
theorem refWrite_no (f : Fr) (w : World) (hf : FrIn w f) (hr : rightB f = false)
    (HRR : Hid (∀ W, FrIn W f → Calls Tryd.prog 9 #[frV f] W fun e w' => e = .returned (.bool (rightB f)) ∧ Below W.heap.size W w')) :
    Calls Tryd.prog 4 #[frV f] w fun e w' => e = .returned (.tuple #[.string ⟨#[]⟩, .int .i64 1]) ∧ Below w.heap.size w w' := by
  have hb0 : Below w.heap.size w (w.alloc (.cells (frC f) 26)) := (Below.refl _ _).alloc (Nat.le_refl _) _
  have hF0 := HasF.new w f
  have hI0 := hf.below hb0
  rw [hr] at HRR
  clear hr
  unfold frV frC at *
  go_enter Tryd.func4, Tryd.ntmps4
  go_upto_region 1 with (fail)
  generalize w.alloc (.cells #[.int .u8 (f.d 0), .int .u8 (f.d 1), .int .u8 (f.d 2), .int .u8 (f.d 3), .int .u8 (f.d 4), .int .u8 (f.d 5), .int .u8 (f.s 0), .int .u8 (f.s 1), .int .u8 (f.s 2), .int .u8 (f.s 3), .int .u8 (f.s 4), .int .u8 (f.s 5), .slice f.ta f.tl.length f.tc, .int .i64 f.k, .int .i64 f.t, .int .i64 f.da, .int .i64 f.sa, .int .i64 f.ct, .int .i64 f.ou, .int .i64 f.pi, .string f.bo] 26) = w1 at *
  go_wp2_with (refine load_fr _ f w.heap.size (by rfl) rfl rfl hF0 ?_)
  refine (HRR.out _ hI0).mono ?_
  rintro e w2 ⟨rfl, b2⟩
  have B2 : Below w.heap.size w w2 := hb0.trans (b2.mono hb0.size)
  clear hF0 hI0 hb0 HRR b2 hf
  go_wp2
  go_ret2
  exact ⟨rfl, B2⟩

end Go.Proofs.YtageodliabdhmaaDoor
