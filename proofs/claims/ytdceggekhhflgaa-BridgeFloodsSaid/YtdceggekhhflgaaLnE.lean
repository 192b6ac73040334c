/- package learn: Learn, where it errs. -/
import Derived.Test.YtdceggekhhflgaaLnB
namespace Go.Proofs.Ytdceggekhhflgaa
open Go.RowKit
open Go.Shelf
attribute [local go_sem ↓] Go.wp_at_zero Go.wp_at_succ
set_option linter.unusedSimpArgs false
set_option linter.unusedVariables false
set_option maxRecDepth 100000
set_option linter.unusedSectionVars false
variable [Zone]

def learnErr (last vid : Int) (a : Nat → Nat) (port now : Int) : Int :=
  if a 0 % 2 = 1 ∨ vid < 1 ∨ 4094 < vid ∨ port < 0 ∨ 8 ≤ port then 1 else if now < 0 ∨ 1099511627776 < now then 2 else if now < last then 10 else 0

def errV (e : Int) : Value := if e = 0 then .nilIface else .iface 71 (.int .i64 e)

/-- Four new variables. -/
def W4 (w : World) (t : Nat) (vid : Int) (A : Array Value) (now : Int) : World := (((w.alloc (.cells #[.pointer (some ⟨t, 0, none⟩)] 72)).alloc (.cells #[.int .i64 vid] 3)).alloc (.cells A 33)).alloc (.cells #[.int .i64 now] 3)

structure Box4 (w : World) (N t : Nat) (vid : Int) (A : Array Value) (now : Int) : Prop where
  t : Blk w N 72 #[.pointer (some ⟨t, 0, none⟩)]
  v : Blk w (N + 1) 3 #[.int .i64 vid]
  a : Blk w (N + 2) 33 A
  n : Blk w (N + 3) 3 #[.int .i64 now]

theorem Box4.kept {w w' : World} {N t : Nat} {vid : Int} {A : Array Value} {now : Int} (h : Box4 w N t vid A now) (hb : Below w.heap.size w w') : Box4 w' N t vid A now := ⟨h.t.kept hb, h.v.kept hb, h.a.kept hb, h.n.kept hb⟩

theorem Box4.lx {w w' : World} {N t B : Nat} {vid : Int} {A : Array Value} {now : Int} {TS : List TypeId} (h : Box4 w N t vid A now) (hx : Lx B TS w w') (h1 : 72 ∉ TS) (h2 : 3 ∉ TS) (h3 : 33 ∉ TS) : Box4 w' N t vid A now := ⟨hx.blk h.t h1, hx.blk h.v h2, hx.blk h.a h3, hx.blk h.n h2⟩

theorem Box4.drew {w : World} {N t : Nat} {vid : Int} {A : Array Value} {now : Int} (h : Box4 w N t vid A now) : Box4 w.drew N t vid A now := ⟨h.t, h.v, h.a, h.n⟩

theorem box4 (w : World) (t : Nat) (vid : Int) (A : Array Value) (now : Int) : Box4 (W4 w t vid A now) w.heap.size t vid A now ∧ Below w.heap.size w (W4 w t vid A now) := by
  have hz : ∀ (w : World) (o : Obj), (w.alloc o).heap.size = w.heap.size + 1 := fun w o => by simp
  have b1 := Blk.new w 72 #[.pointer (some ⟨t, 0, none⟩)]
  have b2 := Blk.new (w.alloc (.cells #[.pointer (some ⟨t, 0, none⟩)] 72)) 3 #[.int .i64 vid]
  have b3 := Blk.new ((w.alloc (.cells #[.pointer (some ⟨t, 0, none⟩)] 72)).alloc (.cells #[.int .i64 vid] 3)) 33 A
  have b4 := Blk.new (((w.alloc (.cells #[.pointer (some ⟨t, 0, none⟩)] 72)).alloc (.cells #[.int .i64 vid] 3)).alloc (.cells A 33)) 3 #[.int .i64 now]
  simp only [hz] at b2 b3 b4
  refine ⟨⟨((b1.alloc _).alloc _).alloc _, (b2.alloc _).alloc _, b3.alloc _, b4⟩, ?_⟩
  exact ((((Below.refl _ _).alloc (Nat.le_refl _) _).alloc (by simp) _).alloc (by simp; omega) _).alloc (by simp; omega) _

set_option maxHeartbeats 3200000 in
theorem learn_err0 (B t : Nat) (age last : Int) (l : List Ent) (vid : Int) (a : Nat → Nat) (port now : Int) (w : World) (h : Tab w B t age last l) (ha : ∀ i, a i < 256) (hg : a 0 % 2 = 1) :
    Calls Try.prog 41 #[.pointer (some ⟨t, 0, none⟩), .int .i64 vid, .agg (c6 a), .int .i64 port, .int .i64 now] w fun e w' => e = .returned (.iface 71 (.int .i64 1)) ∧ Below w.heap.size w w' := by
  obtain ⟨hX, hb0⟩ := box4 w t vid (c6 a) now
  have HG := Lib.hid (group6 a ha (W4 w t vid (c6 a) now))
  obtain ⟨v, hb, hr⟩ := (h.kept hb0).row
  have HX := Lib.hid hX
  have HB := Lib.hid hb
  have HB0 := Lib.hid hb0
  have hAl := hX.a
  have hg : decide (a 0 % 2 = 1) = true := decide_eq_true hg
  rw [hg] at HG
  clear h hr hb hb0 hX hg
  unfold W4 c6 at *
  go_enter Try.func41, Try.ntmps41
  go_upto_region 1 with (fail)
  generalize (((w.alloc (.cells #[.pointer (some ⟨t, 0, none⟩)] 72)).alloc (.cells #[.int .i64 vid] 3)).alloc (.cells #[.int .u8 (a 0), .int .u8 (a 1), .int .u8 (a 2), .int .u8 (a 3), .int .u8 (a 4), .int .u8 (a 5)] 33)).alloc (.cells #[.int .i64 now] 3) = W0 at *
  go_wp2_with (first
    | (refine load_blk (k := 0) 33 #[.int .u8 (a 0), .int .u8 (a 1), .int .u8 (a 2), .int .u8 (a 3), .int .u8 (a 4), .int .u8 (a 5)] (by rfl) rfl rfl hAl (by kernel_rfl) (by kernel_rfl) (by rfl) ?_)
    | (go_at_call 40; refine HG.out.mono ?_; rintro e w1 ⟨rfl, k1⟩; have HX1 := HX.out.kept k1; have c0 := HX1.t.cv 0 (.pointer (some ⟨t, 0, none⟩)) rfl; have c1 := HX1.v.cv 0 (.int .i64 vid) rfl; have c3 := HX1.n.cv 0 (.int .i64 now) rfl; have c4 := (HB.out.kept k1).cv 1 (.int .i64 last) rfl))
  go_ret
  exact ⟨rfl, HB0.out.trans (k1.mono HB0.out.size)⟩

set_option maxHeartbeats 3200000 in
theorem learn_err1 (B t : Nat) (age last : Int) (l : List Ent) (vid : Int) (a : Nat → Nat) (port now : Int) (w : World) (h : Tab w B t age last l) (ha : ∀ i, a i < 256) (hg : ¬ a 0 % 2 = 1) (hv1 : vid < 1) :
    Calls Try.prog 41 #[.pointer (some ⟨t, 0, none⟩), .int .i64 vid, .agg (c6 a), .int .i64 port, .int .i64 now] w fun e w' => e = .returned (.iface 71 (.int .i64 1)) ∧ Below w.heap.size w w' := by
  obtain ⟨hX, hb0⟩ := box4 w t vid (c6 a) now
  have HG := Lib.hid (group6 a ha (W4 w t vid (c6 a) now))
  obtain ⟨v, hb, hr⟩ := (h.kept hb0).row
  have HX := Lib.hid hX
  have HB := Lib.hid hb
  have HB0 := Lib.hid hb0
  have hAl := hX.a
  have hg : decide (a 0 % 2 = 1) = false := decide_eq_false hg
  have dv1 : decide (vid < 1) = true := decide_eq_true hv1
  rw [hg] at HG
  clear h hr hb hb0 hX hg
  unfold W4 c6 at *
  go_enter Try.func41, Try.ntmps41
  go_upto_region 1 with (fail)
  generalize (((w.alloc (.cells #[.pointer (some ⟨t, 0, none⟩)] 72)).alloc (.cells #[.int .i64 vid] 3)).alloc (.cells #[.int .u8 (a 0), .int .u8 (a 1), .int .u8 (a 2), .int .u8 (a 3), .int .u8 (a 4), .int .u8 (a 5)] 33)).alloc (.cells #[.int .i64 now] 3) = W0 at *
  go_wp2_with (first
    | (refine load_blk (k := 0) 33 #[.int .u8 (a 0), .int .u8 (a 1), .int .u8 (a 2), .int .u8 (a 3), .int .u8 (a 4), .int .u8 (a 5)] (by rfl) rfl rfl hAl (by kernel_rfl) (by kernel_rfl) (by rfl) ?_)
    | (go_at_call 40; refine HG.out.mono ?_; rintro e w1 ⟨rfl, k1⟩; have HX1 := HX.out.kept k1; have c0 := HX1.t.cv 0 (.pointer (some ⟨t, 0, none⟩)) rfl; have c1 := HX1.v.cv 0 (.int .i64 vid) rfl; have c3 := HX1.n.cv 0 (.int .i64 now) rfl; have c4 := (HB.out.kept k1).cv 1 (.int .i64 last) rfl))
  go_ret
  exact ⟨rfl, HB0.out.trans (k1.mono HB0.out.size)⟩

set_option maxHeartbeats 3200000 in
theorem learn_err2 (B t : Nat) (age last : Int) (l : List Ent) (vid : Int) (a : Nat → Nat) (port now : Int) (w : World) (h : Tab w B t age last l) (ha : ∀ i, a i < 256) (hg : ¬ a 0 % 2 = 1) (hv1 : ¬ vid < 1) (hv2 : 4094 < vid) :
    Calls Try.prog 41 #[.pointer (some ⟨t, 0, none⟩), .int .i64 vid, .agg (c6 a), .int .i64 port, .int .i64 now] w fun e w' => e = .returned (.iface 71 (.int .i64 1)) ∧ Below w.heap.size w w' := by
  obtain ⟨hX, hb0⟩ := box4 w t vid (c6 a) now
  have HG := Lib.hid (group6 a ha (W4 w t vid (c6 a) now))
  obtain ⟨v, hb, hr⟩ := (h.kept hb0).row
  have HX := Lib.hid hX
  have HB := Lib.hid hb
  have HB0 := Lib.hid hb0
  have hAl := hX.a
  have hg : decide (a 0 % 2 = 1) = false := decide_eq_false hg
  have dv1 : decide (vid < 1) = false := decide_eq_false hv1
  have dv2 : decide ((4094 : Int) < vid) = true := decide_eq_true hv2
  rw [hg] at HG
  clear h hr hb hb0 hX hg
  unfold W4 c6 at *
  go_enter Try.func41, Try.ntmps41
  go_upto_region 1 with (fail)
  generalize (((w.alloc (.cells #[.pointer (some ⟨t, 0, none⟩)] 72)).alloc (.cells #[.int .i64 vid] 3)).alloc (.cells #[.int .u8 (a 0), .int .u8 (a 1), .int .u8 (a 2), .int .u8 (a 3), .int .u8 (a 4), .int .u8 (a 5)] 33)).alloc (.cells #[.int .i64 now] 3) = W0 at *
  go_wp2_with (first
    | (refine load_blk (k := 0) 33 #[.int .u8 (a 0), .int .u8 (a 1), .int .u8 (a 2), .int .u8 (a 3), .int .u8 (a 4), .int .u8 (a 5)] (by rfl) rfl rfl hAl (by kernel_rfl) (by kernel_rfl) (by rfl) ?_)
    | (go_at_call 40; refine HG.out.mono ?_; rintro e w1 ⟨rfl, k1⟩; have HX1 := HX.out.kept k1; have c0 := HX1.t.cv 0 (.pointer (some ⟨t, 0, none⟩)) rfl; have c1 := HX1.v.cv 0 (.int .i64 vid) rfl; have c3 := HX1.n.cv 0 (.int .i64 now) rfl; have c4 := (HB.out.kept k1).cv 1 (.int .i64 last) rfl))
  go_ret
  exact ⟨rfl, HB0.out.trans (k1.mono HB0.out.size)⟩

set_option maxHeartbeats 3200000 in
theorem learn_err3 (B t : Nat) (age last : Int) (l : List Ent) (vid : Int) (a : Nat → Nat) (port now : Int) (w : World) (h : Tab w B t age last l) (ha : ∀ i, a i < 256) (hg : ¬ a 0 % 2 = 1) (hv1 : ¬ vid < 1) (hv2 : ¬ 4094 < vid) (hp1 : port < 0) :
    Calls Try.prog 41 #[.pointer (some ⟨t, 0, none⟩), .int .i64 vid, .agg (c6 a), .int .i64 port, .int .i64 now] w fun e w' => e = .returned (.iface 71 (.int .i64 1)) ∧ Below w.heap.size w w' := by
  obtain ⟨hX, hb0⟩ := box4 w t vid (c6 a) now
  have HG := Lib.hid (group6 a ha (W4 w t vid (c6 a) now))
  obtain ⟨v, hb, hr⟩ := (h.kept hb0).row
  have HX := Lib.hid hX
  have HB := Lib.hid hb
  have HB0 := Lib.hid hb0
  have hAl := hX.a
  have hg : decide (a 0 % 2 = 1) = false := decide_eq_false hg
  have dv1 : decide (vid < 1) = false := decide_eq_false hv1
  have dv2 : decide ((4094 : Int) < vid) = false := decide_eq_false hv2
  have dp1 : decide (port < 0) = true := decide_eq_true hp1
  rw [hg] at HG
  clear h hr hb hb0 hX hg
  unfold W4 c6 at *
  go_enter Try.func41, Try.ntmps41
  go_upto_region 1 with (fail)
  generalize (((w.alloc (.cells #[.pointer (some ⟨t, 0, none⟩)] 72)).alloc (.cells #[.int .i64 vid] 3)).alloc (.cells #[.int .u8 (a 0), .int .u8 (a 1), .int .u8 (a 2), .int .u8 (a 3), .int .u8 (a 4), .int .u8 (a 5)] 33)).alloc (.cells #[.int .i64 now] 3) = W0 at *
  go_wp2_with (first
    | (refine load_blk (k := 0) 33 #[.int .u8 (a 0), .int .u8 (a 1), .int .u8 (a 2), .int .u8 (a 3), .int .u8 (a 4), .int .u8 (a 5)] (by rfl) rfl rfl hAl (by kernel_rfl) (by kernel_rfl) (by rfl) ?_)
    | (go_at_call 40; refine HG.out.mono ?_; rintro e w1 ⟨rfl, k1⟩; have HX1 := HX.out.kept k1; have c0 := HX1.t.cv 0 (.pointer (some ⟨t, 0, none⟩)) rfl; have c1 := HX1.v.cv 0 (.int .i64 vid) rfl; have c3 := HX1.n.cv 0 (.int .i64 now) rfl; have c4 := (HB.out.kept k1).cv 1 (.int .i64 last) rfl))
  go_ret
  exact ⟨rfl, HB0.out.trans (k1.mono HB0.out.size)⟩

set_option maxHeartbeats 3200000 in
theorem learn_err4 (B t : Nat) (age last : Int) (l : List Ent) (vid : Int) (a : Nat → Nat) (port now : Int) (w : World) (h : Tab w B t age last l) (ha : ∀ i, a i < 256) (hg : ¬ a 0 % 2 = 1) (hv1 : ¬ vid < 1) (hv2 : ¬ 4094 < vid) (hp1 : ¬ port < 0) (hp2 : 8 ≤ port) :
    Calls Try.prog 41 #[.pointer (some ⟨t, 0, none⟩), .int .i64 vid, .agg (c6 a), .int .i64 port, .int .i64 now] w fun e w' => e = .returned (.iface 71 (.int .i64 1)) ∧ Below w.heap.size w w' := by
  obtain ⟨hX, hb0⟩ := box4 w t vid (c6 a) now
  have HG := Lib.hid (group6 a ha (W4 w t vid (c6 a) now))
  obtain ⟨v, hb, hr⟩ := (h.kept hb0).row
  have HX := Lib.hid hX
  have HB := Lib.hid hb
  have HB0 := Lib.hid hb0
  have hAl := hX.a
  have hg : decide (a 0 % 2 = 1) = false := decide_eq_false hg
  have dv1 : decide (vid < 1) = false := decide_eq_false hv1
  have dv2 : decide ((4094 : Int) < vid) = false := decide_eq_false hv2
  have dp1 : decide (port < 0) = false := decide_eq_false hp1
  have dp2 : decide ((8 : Int) ≤ port) = true := decide_eq_true hp2
  rw [hg] at HG
  clear h hr hb hb0 hX hg
  unfold W4 c6 at *
  go_enter Try.func41, Try.ntmps41
  go_upto_region 1 with (fail)
  generalize (((w.alloc (.cells #[.pointer (some ⟨t, 0, none⟩)] 72)).alloc (.cells #[.int .i64 vid] 3)).alloc (.cells #[.int .u8 (a 0), .int .u8 (a 1), .int .u8 (a 2), .int .u8 (a 3), .int .u8 (a 4), .int .u8 (a 5)] 33)).alloc (.cells #[.int .i64 now] 3) = W0 at *
  go_wp2_with (first
    | (refine load_blk (k := 0) 33 #[.int .u8 (a 0), .int .u8 (a 1), .int .u8 (a 2), .int .u8 (a 3), .int .u8 (a 4), .int .u8 (a 5)] (by rfl) rfl rfl hAl (by kernel_rfl) (by kernel_rfl) (by rfl) ?_)
    | (go_at_call 40; refine HG.out.mono ?_; rintro e w1 ⟨rfl, k1⟩; have HX1 := HX.out.kept k1; have c0 := HX1.t.cv 0 (.pointer (some ⟨t, 0, none⟩)) rfl; have c1 := HX1.v.cv 0 (.int .i64 vid) rfl; have c3 := HX1.n.cv 0 (.int .i64 now) rfl; have c4 := (HB.out.kept k1).cv 1 (.int .i64 last) rfl))
  go_ret
  exact ⟨rfl, HB0.out.trans (k1.mono HB0.out.size)⟩

set_option maxHeartbeats 3200000 in
theorem learn_err5 (B t : Nat) (age last : Int) (l : List Ent) (vid : Int) (a : Nat → Nat) (port now : Int) (w : World) (h : Tab w B t age last l) (ha : ∀ i, a i < 256) (hg : ¬ a 0 % 2 = 1) (hv1 : ¬ vid < 1) (hv2 : ¬ 4094 < vid) (hp1 : ¬ port < 0) (hp2 : ¬ 8 ≤ port) (hn1 : now < 0) :
    Calls Try.prog 41 #[.pointer (some ⟨t, 0, none⟩), .int .i64 vid, .agg (c6 a), .int .i64 port, .int .i64 now] w fun e w' => e = .returned (.iface 71 (.int .i64 2)) ∧ Below w.heap.size w w' := by
  obtain ⟨hX, hb0⟩ := box4 w t vid (c6 a) now
  have HG := Lib.hid (group6 a ha (W4 w t vid (c6 a) now))
  obtain ⟨v, hb, hr⟩ := (h.kept hb0).row
  have HX := Lib.hid hX
  have HB := Lib.hid hb
  have HB0 := Lib.hid hb0
  have hAl := hX.a
  have hg : decide (a 0 % 2 = 1) = false := decide_eq_false hg
  have dv1 : decide (vid < 1) = false := decide_eq_false hv1
  have dv2 : decide ((4094 : Int) < vid) = false := decide_eq_false hv2
  have dp1 : decide (port < 0) = false := decide_eq_false hp1
  have dp2 : decide ((8 : Int) ≤ port) = false := decide_eq_false hp2
  have dn1 : decide (now < 0) = true := decide_eq_true hn1
  rw [hg] at HG
  clear h hr hb hb0 hX hg
  unfold W4 c6 at *
  go_enter Try.func41, Try.ntmps41
  go_upto_region 1 with (fail)
  generalize (((w.alloc (.cells #[.pointer (some ⟨t, 0, none⟩)] 72)).alloc (.cells #[.int .i64 vid] 3)).alloc (.cells #[.int .u8 (a 0), .int .u8 (a 1), .int .u8 (a 2), .int .u8 (a 3), .int .u8 (a 4), .int .u8 (a 5)] 33)).alloc (.cells #[.int .i64 now] 3) = W0 at *
  go_wp2_with (first
    | (refine load_blk (k := 0) 33 #[.int .u8 (a 0), .int .u8 (a 1), .int .u8 (a 2), .int .u8 (a 3), .int .u8 (a 4), .int .u8 (a 5)] (by rfl) rfl rfl hAl (by kernel_rfl) (by kernel_rfl) (by rfl) ?_)
    | (go_at_call 40; refine HG.out.mono ?_; rintro e w1 ⟨rfl, k1⟩; have HX1 := HX.out.kept k1; have c0 := HX1.t.cv 0 (.pointer (some ⟨t, 0, none⟩)) rfl; have c1 := HX1.v.cv 0 (.int .i64 vid) rfl; have c3 := HX1.n.cv 0 (.int .i64 now) rfl; have c4 := (HB.out.kept k1).cv 1 (.int .i64 last) rfl))
  go_ret
  exact ⟨rfl, HB0.out.trans (k1.mono HB0.out.size)⟩

set_option maxHeartbeats 3200000 in
theorem learn_err6 (B t : Nat) (age last : Int) (l : List Ent) (vid : Int) (a : Nat → Nat) (port now : Int) (w : World) (h : Tab w B t age last l) (ha : ∀ i, a i < 256) (hg : ¬ a 0 % 2 = 1) (hv1 : ¬ vid < 1) (hv2 : ¬ 4094 < vid) (hp1 : ¬ port < 0) (hp2 : ¬ 8 ≤ port) (hn1 : ¬ now < 0) (hn2 : 1099511627776 < now) :
    Calls Try.prog 41 #[.pointer (some ⟨t, 0, none⟩), .int .i64 vid, .agg (c6 a), .int .i64 port, .int .i64 now] w fun e w' => e = .returned (.iface 71 (.int .i64 2)) ∧ Below w.heap.size w w' := by
  obtain ⟨hX, hb0⟩ := box4 w t vid (c6 a) now
  have HG := Lib.hid (group6 a ha (W4 w t vid (c6 a) now))
  obtain ⟨v, hb, hr⟩ := (h.kept hb0).row
  have HX := Lib.hid hX
  have HB := Lib.hid hb
  have HB0 := Lib.hid hb0
  have hAl := hX.a
  have hg : decide (a 0 % 2 = 1) = false := decide_eq_false hg
  have dv1 : decide (vid < 1) = false := decide_eq_false hv1
  have dv2 : decide ((4094 : Int) < vid) = false := decide_eq_false hv2
  have dp1 : decide (port < 0) = false := decide_eq_false hp1
  have dp2 : decide ((8 : Int) ≤ port) = false := decide_eq_false hp2
  have dn1 : decide (now < 0) = false := decide_eq_false hn1
  have dn2 : decide ((1099511627776 : Int) < now) = true := decide_eq_true hn2
  rw [hg] at HG
  clear h hr hb hb0 hX hg
  unfold W4 c6 at *
  go_enter Try.func41, Try.ntmps41
  go_upto_region 1 with (fail)
  generalize (((w.alloc (.cells #[.pointer (some ⟨t, 0, none⟩)] 72)).alloc (.cells #[.int .i64 vid] 3)).alloc (.cells #[.int .u8 (a 0), .int .u8 (a 1), .int .u8 (a 2), .int .u8 (a 3), .int .u8 (a 4), .int .u8 (a 5)] 33)).alloc (.cells #[.int .i64 now] 3) = W0 at *
  go_wp2_with (first
    | (refine load_blk (k := 0) 33 #[.int .u8 (a 0), .int .u8 (a 1), .int .u8 (a 2), .int .u8 (a 3), .int .u8 (a 4), .int .u8 (a 5)] (by rfl) rfl rfl hAl (by kernel_rfl) (by kernel_rfl) (by rfl) ?_)
    | (go_at_call 40; refine HG.out.mono ?_; rintro e w1 ⟨rfl, k1⟩; have HX1 := HX.out.kept k1; have c0 := HX1.t.cv 0 (.pointer (some ⟨t, 0, none⟩)) rfl; have c1 := HX1.v.cv 0 (.int .i64 vid) rfl; have c3 := HX1.n.cv 0 (.int .i64 now) rfl; have c4 := (HB.out.kept k1).cv 1 (.int .i64 last) rfl))
  go_ret
  exact ⟨rfl, HB0.out.trans (k1.mono HB0.out.size)⟩

set_option maxHeartbeats 3200000 in
theorem learn_err7 (B t : Nat) (age last : Int) (l : List Ent) (vid : Int) (a : Nat → Nat) (port now : Int) (w : World) (h : Tab w B t age last l) (ha : ∀ i, a i < 256) (hg : ¬ a 0 % 2 = 1) (hv1 : ¬ vid < 1) (hv2 : ¬ 4094 < vid) (hp1 : ¬ port < 0) (hp2 : ¬ 8 ≤ port) (hn1 : ¬ now < 0) (hn2 : ¬ 1099511627776 < now) (ho1 : now < last) :
    Calls Try.prog 41 #[.pointer (some ⟨t, 0, none⟩), .int .i64 vid, .agg (c6 a), .int .i64 port, .int .i64 now] w fun e w' => e = .returned (.iface 71 (.int .i64 10)) ∧ Below w.heap.size w w' := by
  obtain ⟨hX, hb0⟩ := box4 w t vid (c6 a) now
  have HG := Lib.hid (group6 a ha (W4 w t vid (c6 a) now))
  obtain ⟨v, hb, hr⟩ := (h.kept hb0).row
  have HX := Lib.hid hX
  have HB := Lib.hid hb
  have HB0 := Lib.hid hb0
  have hAl := hX.a
  have hg : decide (a 0 % 2 = 1) = false := decide_eq_false hg
  have dv1 : decide (vid < 1) = false := decide_eq_false hv1
  have dv2 : decide ((4094 : Int) < vid) = false := decide_eq_false hv2
  have dp1 : decide (port < 0) = false := decide_eq_false hp1
  have dp2 : decide ((8 : Int) ≤ port) = false := decide_eq_false hp2
  have dn1 : decide (now < 0) = false := decide_eq_false hn1
  have dn2 : decide ((1099511627776 : Int) < now) = false := decide_eq_false hn2
  have do1 : decide (now < last) = true := decide_eq_true ho1
  rw [hg] at HG
  clear h hr hb hb0 hX hg
  unfold W4 c6 at *
  go_enter Try.func41, Try.ntmps41
  go_upto_region 1 with (fail)
  generalize (((w.alloc (.cells #[.pointer (some ⟨t, 0, none⟩)] 72)).alloc (.cells #[.int .i64 vid] 3)).alloc (.cells #[.int .u8 (a 0), .int .u8 (a 1), .int .u8 (a 2), .int .u8 (a 3), .int .u8 (a 4), .int .u8 (a 5)] 33)).alloc (.cells #[.int .i64 now] 3) = W0 at *
  go_wp2_with (first
    | (refine load_blk (k := 0) 33 #[.int .u8 (a 0), .int .u8 (a 1), .int .u8 (a 2), .int .u8 (a 3), .int .u8 (a 4), .int .u8 (a 5)] (by rfl) rfl rfl hAl (by kernel_rfl) (by kernel_rfl) (by rfl) ?_)
    | (go_at_call 40; refine HG.out.mono ?_; rintro e w1 ⟨rfl, k1⟩; have HX1 := HX.out.kept k1; have c0 := HX1.t.cv 0 (.pointer (some ⟨t, 0, none⟩)) rfl; have c1 := HX1.v.cv 0 (.int .i64 vid) rfl; have c3 := HX1.n.cv 0 (.int .i64 now) rfl; have c4 := (HB.out.kept k1).cv 1 (.int .i64 last) rfl))
  go_quiet (fail)
  go_wp2
  go_ret
  exact ⟨rfl, by have b := HB0.out.trans (k1.mono HB0.out.size); exact ⟨b.os, b.tape, b.output, b.size, b.block⟩⟩

end Go.Proofs.Ytdceggekhhflgaa
