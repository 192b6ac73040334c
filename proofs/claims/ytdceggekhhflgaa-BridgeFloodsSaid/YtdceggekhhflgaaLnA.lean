/- package learn: alive, the closures, remove. -/
import Derived.Test.YtdceggekhhflgaaEnFn
import Derived.BigQuiet
import Derived.BigGuard
namespace Go.Proofs.Ytdceggekhhflgaa
open Go.RowKit
open Go.Shelf
attribute [local go_sem ↓] Go.wp_at_zero Go.wp_at_succ
set_option linter.unusedSimpArgs false
set_option linter.unusedVariables false
set_option maxRecDepth 100000
set_option linter.unusedSectionVars false
variable [Zone]

/-- The cells of a table. -/
def tabC (age last : Int) (v : Value) : Array Value := #[.int .i64 age, .int .i64 last, v]

set_option maxHeartbeats 1600000 in
theorem alive_any (t : Nat) (age last : Int) (v : Value) (e : Ent) (now : Int) (w : World) (hB : Blk w t 104 (tabC age last v)) (he : OkE e) (h0 : 1 ≤ age) (h1 : age ≤ 300) :
    Calls Try.prog 66 #[.pointer (some ⟨t, 0, none⟩), .agg (enC e), .int .i64 now] w fun x w' => x = .returned (.bool (aliveE age now e)) ∧ Below w.heap.size w w' := by
  have t0 := he.t0
  have t1 := he.t1
  have hX : IntKind.i64.wrap (e.time + age) = e.time + age := by rw [IntKind.wrap_i64] <;> omega
  have hc : (w.alloc (.cells (enC e) 100)).cell? ⟨t, 0, none⟩ = some (.int .i64 age) := (hB.alloc _).cv 0 _ rfl
  have hb : Below w.heap.size w (w.alloc (.cells (enC e) 100)) := (Below.refl _ _).alloc (Nat.le_refl _) _
  unfold aliveE
  obtain ⟨vid, a, port, time⟩ := e
  unfold enC at *
  simp only at *
  clear he hB
  generalize hd : decide (now ≤ time + age) = d at *
  go_enter Try.func66, Try.ntmps66
  go_wp2_with fail
  go_quiet (fail)
  go_wp2
  go_ret
  exact ⟨rfl, hb.os, hb.tape, hb.output, hb.size, hb.block⟩

/-- What Learn's closure has at hand. -/
structure AtL (t pt pn pv pa : Nat) (age last : Int) (v : Value) (now vid : Int) (a : Nat → Nat) (w : World) : Prop where
  tab : Blk w t 104 (tabC age last v)
  t : Blk w pt 72 #[.pointer (some ⟨t, 0, none⟩)]
  now : Blk w pn 3 #[.int .i64 now]
  vid : Blk w pv 3 #[.int .i64 vid]
  a : Blk w pa 33 (c6 a)

theorem AtL.lx {t pt pn pv pa : Nat} {age last : Int} {v : Value} {now vid : Int} {a : Nat → Nat} {B : Nat} {w w' : World} (h : AtL t pt pn pv pa age last v now vid a w) (hx : Lx B [100] w w') : AtL t pt pn pv pa age last v now vid a w' :=
  ⟨hx.blk h.tab (by decide), hx.blk h.t (by decide), hx.blk h.now (by decide), hx.blk h.vid (by decide), hx.blk h.a (by decide)⟩

set_option maxHeartbeats 3200000 in
theorem learn1_any (t pt pn pv pa : Nat) (age last : Int) (v : Value) (now vid : Int) (a : Nat → Nat) (h0 : 1 ≤ age) (h1 : age ≤ 300) :
    PredE 65 #[.pointer (some ⟨pt, 0, none⟩), .pointer (some ⟨pn, 0, none⟩), .pointer (some ⟨pv, 0, none⟩), .pointer (some ⟨pa, 0, none⟩)] (goneE age now vid a) (AtL t pt pn pv pa age last v now vid a) := by
  intro e w he hG
  show Calls _ _ #[.agg (enC e), .pointer (some ⟨pt, 0, none⟩), .pointer (some ⟨pn, 0, none⟩), .pointer (some ⟨pv, 0, none⟩), .pointer (some ⟨pa, 0, none⟩)] _ _
  have hb : Below w.heap.size w (w.alloc (.cells (enC e) 100)) := (Below.refl _ _).alloc (Nat.le_refl _) _
  have hG0 := hG.lx (B := 0) (Lx.of hb)
  have HN := Blk.new w 100 (enC e)
  have HAl := Lib.hid (alive_any t age last v e now _ hG0.tab he h0 h1)
  have hq : ∀ W, (Op.equalIn 10000 33 (.agg (c6 e.a)) (.agg (c6 a))).run Try.prog W = .ok (eqN 6 e.a a) W := fun W => run_eql_c6 9998 e.a a W
  have c1 := hG0.t.cv 0 _ rfl
  have c2 := hG0.now.cv 0 _ rfl
  have hgone : goneE age now vid a e = (!(aliveE age now e) || (decide (e.vid = vid) && eqN 6 e.a a)) := rfl
  rw [hgone]
  have HG0 := Lib.hid hG0
  have HB := Lib.hid hb
  clear hG hG0 he hgone hb
  generalize aliveE age now e = al at *
  generalize eqN 6 e.a a = q at *
  obtain ⟨vid', a', port, time⟩ := e
  unfold enC at *
  simp only at *
  by_cases hv : vid' = vid
  · subst hv
    have hv : vid' = vid' := rfl
    have hdv : decide (vid' = vid') = true := decide_eq_true hv
    have hbv : (vid' == vid') = true := beq_self_eq_true _
    rw [hdv]
    clear hv
    cases al with
    | false =>
      go_enter Try.func65, Try.ntmps65
      go_wp2_with (first
        | go_big_skip
        | (refine load_blk (k := 0) 100 #[.int .i64 vid', .int .u8 (a' 0), .int .u8 (a' 1), .int .u8 (a' 2), .int .u8 (a' 3), .int .u8 (a' 4), .int .u8 (a' 5), .int .i64 port, .int .i64 time] (by rfl) rfl rfl HN (by kernel_rfl) (by kernel_rfl) (by rfl) ?_)
        | (go_at_call 66; refine HAl.out.mono ?_; rintro r w2 ⟨rfl, k2⟩))
      go_ret
      exact ⟨rfl, HB.out.trans (k2.mono HB.out.size)⟩
    | true =>
      go_enter Try.func65, Try.ntmps65
      go_wp2_with (first
        | go_big_skip
        | (refine load_blk (k := 0) 100 #[.int .i64 vid', .int .u8 (a' 0), .int .u8 (a' 1), .int .u8 (a' 2), .int .u8 (a' 3), .int .u8 (a' 4), .int .u8 (a' 5), .int .i64 port, .int .i64 time] (by rfl) rfl rfl HN (by kernel_rfl) (by kernel_rfl) (by rfl) ?_)
        | (go_at_call 66; refine HAl.out.mono ?_; rintro r w2 ⟨rfl, k2⟩; have HN2 := HN.kept k2; have n0 := HN2.cv 0 _ rfl; have c3 := (HG0.out.vid.kept k2).cv 0 _ rfl; have HA2 := HG0.out.a.kept k2; clear HN c1 c2)
        | (refine load_blk (k := 1) 33 (c6 a') (by rfl) rfl rfl HN2 (by kernel_rfl) (by kernel_rfl) (by rfl) ?_)
        | (refine load_blk (k := 0) 33 (c6 a) (by rfl) rfl rfl HA2 (by kernel_rfl) (by kernel_rfl) (by rfl) ?_))
      go_ret
      exact ⟨by cases q <;> rfl, HB.out.trans (k2.mono HB.out.size)⟩
  · have hdv : decide (vid' = vid) = false := decide_eq_false hv
    have hbv : (vid' == vid) = false := by simpa using hv
    rw [hdv]
    cases al with
    | false =>
      go_enter Try.func65, Try.ntmps65
      go_wp2_with (first
        | go_big_skip
        | (refine load_blk (k := 0) 100 #[.int .i64 vid', .int .u8 (a' 0), .int .u8 (a' 1), .int .u8 (a' 2), .int .u8 (a' 3), .int .u8 (a' 4), .int .u8 (a' 5), .int .i64 port, .int .i64 time] (by rfl) rfl rfl HN (by kernel_rfl) (by kernel_rfl) (by rfl) ?_)
        | (go_at_call 66; refine HAl.out.mono ?_; rintro r w2 ⟨rfl, k2⟩))
      go_ret
      exact ⟨rfl, HB.out.trans (k2.mono HB.out.size)⟩
    | true =>
      go_enter Try.func65, Try.ntmps65
      go_wp2_with (first
        | go_big_skip
        | (refine load_blk (k := 0) 100 #[.int .i64 vid', .int .u8 (a' 0), .int .u8 (a' 1), .int .u8 (a' 2), .int .u8 (a' 3), .int .u8 (a' 4), .int .u8 (a' 5), .int .i64 port, .int .i64 time] (by rfl) rfl rfl HN (by kernel_rfl) (by kernel_rfl) (by rfl) ?_)
        | (go_at_call 66; refine HAl.out.mono ?_; rintro r w2 ⟨rfl, k2⟩; have HN2 := HN.kept k2; have n0 := HN2.cv 0 _ rfl; have c3 := (HG0.out.vid.kept k2).cv 0 _ rfl; have HA2 := HG0.out.a.kept k2; clear HN c1 c2))
      go_ret
      exact ⟨rfl, HB.out.trans (k2.mono HB.out.size)⟩

theorem Try.enters_learn1 : ∀ args w, (callFunc 65 args).run Try.prog w = .ok (.enter 65 args) w := enters_of Try.func65 (by kernel_rfl) rfl

theorem forget1_any (pp : Nat) (port : Int) :
    PredE 64 #[.pointer (some ⟨pp, 0, none⟩)] (fun e => e.port == port) (fun w => Blk w pp 3 #[.int .i64 port]) := by
  intro e w he hG
  show Calls _ _ #[.agg (enC e), .pointer (some ⟨pp, 0, none⟩)] _ _
  have hb : Below w.heap.size w (w.alloc (.cells (enC e) 100)) := (Below.refl _ _).alloc (Nat.le_refl _) _
  have c1 := (hG.alloc (.cells (enC e) 100)).cv 0 _ rfl
  obtain ⟨vid', a', port', time⟩ := e
  unfold enC at *
  simp only at *
  clear hG he
  go_enter Try.func64, Try.ntmps64
  go_wp2
  go_ret
  exact ⟨rfl, hb⟩

theorem Try.enters_forget1 : ∀ args w, (callFunc 64 args).run Try.prog w = .ok (.enter 64 args) w := enters_of Try.func64 (by kernel_rfl) rfl

end Go.Proofs.Ytdceggekhhflgaa
