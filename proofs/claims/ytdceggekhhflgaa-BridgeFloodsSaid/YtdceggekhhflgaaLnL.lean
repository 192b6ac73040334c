/- Look and Len of a table, the program's and the reference's. -/
import Derived.Test.YtdceggekhhflgaaLnB
namespace Go.Proofs.Ytdceggekhhflgaa
open Go.RowKit
open Go.Shelf
attribute [local go_sem ↓] Go.wp_at_zero Go.wp_at_succ
set_option linter.unusedSimpArgs false
set_option linter.unusedVariables false
set_option maxRecDepth 100000
set_option linter.unusedSectionVars false
variable [Zone]

def matchE (age vid : Int) (a : Nat → Nat) (now : Int) (e : Ent) : Bool := keyE vid a e && aliveE age now e

theorem look_at {age vid : Int} {a : Nat → Nat} {now : Int} {l : List Ent} {k : Nat} {x : Ent} (h : ∀ y ∈ l.take k, matchE age vid a now y = false) (hx : l[k]? = some x) (hm : matchE age vid a now x = true) : lookM age l vid a now = x.port := by
  obtain ⟨hk, e⟩ := List.getElem?_eq_some_iff.1 hx
  have hl : l = l.take k ++ x :: l.drop (k + 1) := by rw [← e, ← List.drop_eq_getElem_cons hk, List.take_append_drop]
  have h1 : (l.take k).find? (fun e => keyE vid a e && aliveE age now e) = none := List.find?_eq_none.2 fun y hy => by
    have := h y hy
    unfold matchE at this
    simp [this]
  unfold lookM
  rw [hl, List.find?_append, h1, Option.none_or, List.find?_cons]
  unfold matchE at hm
  rw [hm]
  rfl

theorem look_none {age vid : Int} {a : Nat → Nat} {now : Int} {l : List Ent} (h : ∀ y ∈ l, matchE age vid a now y = false) : lookM age l vid a now = -1 := by
  unfold lookM
  have h1 : l.find? (fun e => keyE vid a e && aliveE age now e) = none := List.find?_eq_none.2 fun y hy => by
    have := h y hy
    unfold matchE at this
    simp [this]
  rw [h1]
  rfl

theorem snoc_all {p : Ent → Bool} {l : List Ent} {k : Nat} {x : Ent} (h : ∀ y ∈ l.take k, p y = false) (hx : l[k]? = some x) (hp : p x = false) : ∀ y ∈ l.take (k + 1), p y = false := by
  intro y hy
  rw [List.take_add_one, hx] at hy
  rcases List.mem_append.1 hy with q | q
  · exact h y q
  · rw [List.mem_singleton.1 q]; exact hp

theorem snoc_count {p : Ent → Bool} {l : List Ent} {k : Nat} {x : Ent} (hx : l[k]? = some x) : (l.take (k + 1)).countP p = (l.take k).countP p + if p x then 1 else 0 := by
  rw [List.take_add_one, hx, List.countP_append]
  simp [List.countP_cons]

set_option maxHeartbeats 3200000 in
theorem lnLook_any (B t : Nat) (age last : Int) (l : List Ent) (vid : Int) (a : Nat → Nat) (now : Int) (w : World) (h : Tab w B t age last l) :
    Calls Try.prog 44 #[.pointer (some ⟨t, 0, none⟩), .int .i64 vid, .agg (c6 a), .int .i64 now] w fun e w' => e = .returned (.int .i64 (lookM age l vid a now)) ∧ Below w.heap.size w w' := by
  have hb0 : Below w.heap.size w (w.alloc (.cells (c6 a) 33)) := (Below.refl _ _).alloc (Nat.le_refl _) _
  have h0 := h.kept hb0
  have HA0 := Blk.new w 33 (c6 a)
  obtain ⟨⟨v, hb, hr⟩, hlo, hok, ha0, ha1, hl0, hl1⟩ := h0
  have hrow := hr.toA
  obtain ⟨ad, c, rfl⟩ := hrow.form
  have c2 := hb.cv 2 (.slice ad l.length c) rfl
  have HL := Lib.hid hok.len
  have HOK := Lib.hid hok.ok
  have hll : l.length ≤ 9223372036854775807 := by have := hok.len; omega
  clear h hr hok
  unfold c6 at *
  go_enter Try.func44, Try.ntmps44
  go_wp2_with fail
  generalize w.alloc (.cells #[.int .u8 (a 0), .int .u8 (a 1), .int .u8 (a 2), .int .u8 (a 3), .int .u8 (a 4), .int .u8 (a 5)] 33) = W0 at *
  go_loopw [16] (fun i wr => ∃ k : Nat, k ≤ l.length ∧ i = .int .i64 k ∧ (∀ y ∈ l.take k, matchE age vid a now y = false) ∧ Below W0.heap.size W0 wr) (fun i _ => l.length - (intOf i).toNat)
  case atStart => exact ⟨0, by omega, rfl, by simp, Below.refl _ _⟩
  case round =>
    obtain ⟨k, hk, rfl, hall, Bk⟩ := hrel
    by_cases hlt : k < l.length
    · obtain ⟨g0, lo, e1, hbl, HK⟩ := (hrow.kept Bk).at hlt
      subst e1
      have q1 : (k : Int) < (l.length : Int) := by omega
      have q2 : decide ((k : Int) < (l.length : Int)) = true := decide_eq_true q1
      have q3 : (0 : Int) ≤ (k : Int) := by omega
      have q4 : IntKind.i64.wrap ((k : Int) + 1) = (k : Int) + 1 := by have := HL.out; rw [IntKind.wrap_i64] <;> omega
      have hokx := HOK.out _ (List.getElem_mem hlt)
      have HX := Lib.hid (List.getElem?_eq_getElem hlt)
      generalize l[k] = x at *
      have hsw := Bk.size
      have HA4 := Blk.new wr 100 (enC zEnt)
      have b4 : Below wr.heap.size wr (wr.alloc (.cells (enC zEnt) 100)) := (Below.refl _ _).alloc (Nat.le_refl _) _
      go_upto_region 4 with (first
        | (refine load_cells (B := g0) (k := lo + k * 9) 100 (enC x) (by rfl) rfl rfl HK (by kernel_rfl) (by kernel_rfl) ?_)
        | (refine alloc_blk 100 (enC zEnt) (by rfl) rfl Try.enZero ?_)
        | (refine store_blk (k := 0) 100 (.agg (enC x)) (enC x) (by rfl) rfl rfl rfl HA4 (by kernel_rfl) (show (9 : Nat) ≤ 9 from Nat.le_refl 9) (by rfl) (st_whole' _ _ rfl) ?_; intro w5 HA5 b5 g5))
      have B5 := Bk.trans ((b4.trans b5).mono hsw)
      clear HA4 b4 b5 g5 HK Bk hbl
      generalize wr.heap.size = N at *
      have HB5 := hb.kept B5
      have HAd := HA0.kept B5
      have HALL := Lib.hid hall
      have n0 := HA5.cv 0 (.int .i64 x.vid) rfl
      have hq : ∀ W, (Op.equalIn 10000 33 (.agg (c6 x.a)) (.agg #[.int .u8 (a 0), .int .u8 (a 1), .int .u8 (a 2), .int .u8 (a 3), .int .u8 (a 4), .int .u8 (a 5)])).run Try.prog W = .ok (eqN 6 x.a a) W := fun W => run_eql_c6 9998 x.a a W
      have HAl := Lib.hid (alive_any t age last _ x now w5 HB5 hokx ha0 ha1)
      have hm : matchE age vid a now x = ((decide (x.vid = vid) && eqN 6 x.a a) && aliveE age now x) := rfl
      clear hall
      generalize eqN 6 x.a a = q at *
      generalize aliveE age now x = al at *
      by_cases hv : x.vid = vid
      · have hdv : decide (x.vid = vid) = true := decide_eq_true hv
        rw [hdv] at hm
        rw [hv] at n0
        clear hv hdv
        have hbv : (vid == vid) = true := beq_self_eq_true _
        cases q with
        | true =>
          cases al with
          | true =>
            have n7 := HA5.cv 7 (.int .i64 x.port) rfl
            have HN7 := Lib.hid (fun w6 (k6 : Below w5.heap.size w5 w6) => (HA5.kept k6).cv 7 (.int .i64 x.port) rfl)
            have HLK := Lib.hid (look_at HALL.out HX.out hm)
            go_wp2_with (first
              | go_big_skip
              | (refine load_blk (B := N) (k := 1) 33 (c6 x.a) (by rfl) rfl rfl HA5 (by kernel_rfl) (by kernel_rfl) (by rfl) ?_)
              | (refine load_blk (k := 0) 33 #[.int .u8 (a 0), .int .u8 (a 1), .int .u8 (a 2), .int .u8 (a 3), .int .u8 (a 4), .int .u8 (a 5)] (by rfl) rfl rfl HAd (by kernel_rfl) (by kernel_rfl) (by rfl) ?_)
              | (refine load_blk (B := N) (k := 0) 100 (enC x) (by rfl) rfl rfl HA5 (by kernel_rfl) (by kernel_rfl) (by rfl) ?_)
              | (go_at_call 66; refine HAl.out.mono ?_; rintro e w6 ⟨rfl, k6⟩; have n7 := HN7.out w6 k6))
            go_ret
            exact ⟨by rw [HLK.out]; rfl, hb0.trans ((B5.trans (k6.mono B5.size)).mono hb0.size)⟩
          | false =>
            go_wp2_with (first
              | go_big_skip
              | (refine load_blk (B := N) (k := 1) 33 (c6 x.a) (by rfl) rfl rfl HA5 (by kernel_rfl) (by kernel_rfl) (by rfl) ?_)
              | (refine load_blk (k := 0) 33 #[.int .u8 (a 0), .int .u8 (a 1), .int .u8 (a 2), .int .u8 (a 3), .int .u8 (a 4), .int .u8 (a 5)] (by rfl) rfl rfl HAd (by kernel_rfl) (by kernel_rfl) (by rfl) ?_)
              | (refine load_blk (B := N) (k := 0) 100 (enC x) (by rfl) rfl rfl HA5 (by kernel_rfl) (by kernel_rfl) (by rfl) ?_)
              | (go_at_call 66; refine HAl.out.mono ?_; rintro e w6 ⟨rfl, k6⟩))
            go_roundw
            case rel => exact ⟨k + 1, by omega, by go_num, snoc_all HALL.out HX.out hm, B5.trans (k6.mono B5.size)⟩
            case measure => simp [intOf]; omega
        | false =>
          go_wp2_with (first
            | go_big_skip
            | (refine load_blk (B := N) (k := 1) 33 (c6 x.a) (by rfl) rfl rfl HA5 (by kernel_rfl) (by kernel_rfl) (by rfl) ?_)
            | (refine load_blk (k := 0) 33 #[.int .u8 (a 0), .int .u8 (a 1), .int .u8 (a 2), .int .u8 (a 3), .int .u8 (a 4), .int .u8 (a 5)] (by rfl) rfl rfl HAd (by kernel_rfl) (by kernel_rfl) (by rfl) ?_))
          go_roundw
          case rel => exact ⟨k + 1, by omega, by go_num, snoc_all HALL.out HX.out hm, B5⟩
          case measure => simp [intOf]; omega
      · have hdv : decide (x.vid = vid) = false := decide_eq_false hv
        have hbv : (x.vid == vid) = false := by simpa using hv
        rw [hdv] at hm
        go_wp2_with (go_big_skip)
        go_roundw
        case rel => exact ⟨k + 1, by omega, by go_num, snoc_all HALL.out HX.out hm, B5⟩
        case measure => simp [intOf]; omega
    · obtain rfl : k = l.length := by omega
      have q2 : decide ((l.length : Int) < (l.length : Int)) = false := decide_eq_false (by omega)
      rw [List.take_length] at hall
      have HLK := Lib.hid (look_none hall)
      clear hall
      go_wp2
      go_ret
      exact ⟨by rw [HLK.out]; rfl, hb0.trans (Bk.mono hb0.size)⟩



end Go.Proofs.Ytdceggekhhflgaa
