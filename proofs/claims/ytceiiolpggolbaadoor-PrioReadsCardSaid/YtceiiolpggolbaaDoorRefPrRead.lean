/- The reference's BridgeRead at every text. -/
import Derived.Test.YtceiiolpggolbaaDoorRefNames
namespace Go.Proofs.YtceiiolpggolbaaDoor
open Go.RowKit
attribute [local go_sem ↓] Go.wp_at_zero Go.wp_at_succ
set_option linter.unusedSimpArgs false
set_option linter.unusedVariables false
set_option maxRecDepth 100000

theorem grown_belowA {B g : Nat} {a w w' : World} (h : Below B a w) (hg : w.grownBy w' (some g)) (hB : B ≤ w.heap.size) (hr : B ≤ g) : Below B a w' :=
  h.grown hg hB fun k e => by cases e; exact hr

theorem results_blk3 {P : Program} {fn : Func} {tmps : Array Value} {w : World} {a t b u c v A B D : Nat} {T U V : TypeId} {X Y Z : Array Value} (h : fn.results = #[.cell a t, .cell b u, .cell c v]) (ha : tmps.getD a undef = .pointer (some ⟨A, 0, none⟩)) (hb : tmps.getD b undef = .pointer (some ⟨B, 0, none⟩)) (hc : tmps.getD c undef = .pointer (some ⟨D, 0, none⟩)) (hA : Blk w A T X) (hB : Blk w B U Y) (hD : Blk w D V Z)
    (hu : (match P.underlying t with | some (.struct _) | some (.array _ _) => true | _ => false) = true) (hn : (P.info? t).map (·.size) = some X.size) (hu2 : (match P.underlying u with | some (.struct _) | some (.array _ _) => true | _ => false) = true) (hn2 : (P.info? u).map (·.size) = some Y.size) (hu3 : (match P.underlying v with | some (.struct _) | some (.array _ _) => true | _ => false) = true) (hn3 : (P.info? v).map (·.size) = some Z.size) :
    (results fn tmps).run P w = .ok (.tuple #[.agg X, .agg Y, .agg Z]) w := by
  have h1 := run_load_blk (P := P) w A 0 T t X X hA hu hn (by rw [List.drop_zero]; exact List.take_of_length_le (by simp))
  have h2 := run_load_blk (P := P) w B 0 U u Y Y hB hu2 hn2 (by rw [List.drop_zero]; exact List.take_of_length_le (by simp))
  have h3 := run_load_blk (P := P) w D 0 V v Z Z hD hu3 hn3 (by rw [List.drop_zero]; exact List.take_of_length_le (by simp))
  rw [Array.getD_eq_getD_getElem?] at ha hb hc
  simp only [results, h]
  simp [ha, hb, hc, asAddr, h1, h2, h3]

/-- A whole block is stored, whatever the order. -/
theorem wp_store_op {P : Program} {o : Oper} {a : Act} {w : World} {K : Act → World → Prop} {Q : Exit → Act → World → Prop} {p x : Operand} {B k : Nat} {T : TypeId} {C : Array Value} (t : TypeId) (v : Value) (C' : Array Value) (ho : o.op = .store t p x)
    (hp : a.eval p = .pointer (some ⟨B, k, none⟩)) (hx : a.eval x = v) (hB : Blk w B T C) (hn : (P.info? t).map (·.size) = some v.cells.size) (hk : k + v.cells.toList.length ≤ C.size) (h1 : v.cells.toList.all (·.oneCell') = true)
    (hC : (C.toList.take k ++ v.cells.toList ++ C.toList.drop (k + v.cells.toList.length)).toArray = C')
    (hK : ∀ w', Blk w' B T C' → Below B w w' → w.grownBy w' (some B) → K (a.put o.dst undef) w') : Oper.wp P o a w K Q := by
  have h3 := run_store_blk (P := P) w B k T t C C' v hB hn hk h1 hC
  have hFr := hB.setRow C'
  have hbl : Below B w (w.setRow B C') := below_setRow (Below.refl _ _) (Nat.le_refl _) _
  have hg : w.grownBy (w.setRow B C') (some B) := ⟨rfl, rfl, rfl, by simp, fun j _ hj => setRow_other w B j C' (by intro e; subst e; exact hj rfl)⟩
  unfold Oper.wp execOp
  simp only [ho, hp, hx, Instr.storeAt, Instr.sureAddr, Sem.run_bind, Sem.run_pure, Result.andThen_ok, h3]
  exact hK _ hFr hbl hg

/-- Behind what was thrown. -/
theorem rd_door_bad {w0 w : World} {tmps : Array Value} {A D E : Nat} {X Y : Array Value} {e0 pl0 e pl : Int} (ht2 : tmps.getD 2 undef = .pointer (some ⟨A, 0, none⟩)) (ht3 : tmps.getD 3 undef = .pointer (some ⟨D, 0, none⟩)) (ht4 : tmps.getD 4 undef = .pointer (some ⟨E, 0, none⟩))
    (HA : Blk w A 25 X) (HD : Blk w D 27 Y) (HE : Blk w E 42 (ftC e0 pl0)) (sX : X.size = 8) (sY : Y.size = 2) (hne : A ≠ E) (hne2 : D ≠ E) (hE : w0.heap.size ≤ E) (hb : Below w0.heap.size w0 w) :
    Leaves Tryd.prog Tryd.f20 tmps (fun r w' => r = .returned (.tuple #[.agg X, .agg Y, .agg (ftC e pl)]) ∧ Below w0.heap.size w0 w')
      [{ target := .fn (.func 43) #[], args := #[.pointer (some ⟨E, 0, none⟩)] }] (.panicking (Thrown e pl)) w := by
  refine leaves_cons (f := 43) (args := #[.pointer (some ⟨E, 0, none⟩)]) (by simp [Thrown]) (by simp [go_sem]) ?_
  refine (caught_thrown E e0 pl0 e pl [] w HE).mono ?_
  rintro r u' w2 ⟨rfl, rfl, HE2, g2⟩
  have HA2 := HA.grown g2 (by simpa using hne)
  have HD2 := HD.grown g2 (by simpa using hne2)
  exact ⟨_, results_blk3 rfl ht2 ht3 ht4 HA2 HD2 HE2 (by kernel_rfl) (by rw [sX]; kernel_rfl) (by kernel_rfl) (by rw [sY]; kernel_rfl) (by kernel_rfl) (by kernel_rfl), rfl, grown_belowA hb g2 hb.size hE⟩

/-- Where nothing was thrown. -/
theorem rd_door_ok {w0 w : World} {tmps : Array Value} {A D E : Nat} {X Y Z : Array Value} (ht2 : tmps.getD 2 undef = .pointer (some ⟨A, 0, none⟩)) (ht3 : tmps.getD 3 undef = .pointer (some ⟨D, 0, none⟩)) (ht4 : tmps.getD 4 undef = .pointer (some ⟨E, 0, none⟩))
    (HA : Blk w A 25 X) (HD : Blk w D 27 Y) (HE : Blk w E 42 Z) (sX : X.size = 8) (sY : Y.size = 2) (sZ : Z.size = 2) (hb : Below w0.heap.size w0 w) :
    Leaves Tryd.prog Tryd.f20 tmps (fun r w' => r = .returned (.tuple #[.agg X, .agg Y, .agg Z]) ∧ Below w0.heap.size w0 w')
      [{ target := .fn (.func 43) #[], args := #[.pointer (some ⟨E, 0, none⟩)] }] .returning w := by
  refine leaves_cons (f := 43) (args := #[.pointer (some ⟨E, 0, none⟩)]) (by simp) (by simp [go_sem]) ?_
  refine (caught_idle ⟨E, 0, none⟩ w).mono ?_
  rintro r u' w2 ⟨rfl, rfl, rfl⟩
  exact ⟨_, results_blk3 rfl ht2 ht3 ht4 HA HD HE (by kernel_rfl) (by rw [sX]; kernel_rfl) (by kernel_rfl) (by rw [sY]; kernel_rfl) (by kernel_rfl) (by rw [sZ]; kernel_rfl), rfl, hb⟩

/-- The three results' own variables. -/
def Tri (w : World) (k : Nat) (X Y Z : Array Value) : Prop := Blk w k 25 X ∧ Blk w (k + 1) 27 Y ∧ Blk w (k + 2) 42 Z
theorem Tri.kept {w w' : World} {k : Nat} {X Y Z : Array Value} (h : Tri w k X Y Z) (hb : Below w.heap.size w w') : Tri w' k X Y Z := ⟨h.1.kept hb, h.2.1.kept hb, h.2.2.kept hb⟩
theorem Tri.grown {w w' : World} {k c : Nat} {X Y Z : Array Value} (h : Tri w k X Y Z) (hg : w.grownBy w' (some c)) (hc : k + 2 < c) : Tri w' k X Y Z := ⟨h.1.grown hg (by simp; omega), h.2.1.grown hg (by simp; omega), h.2.2.grown hg (by simp; omega)⟩
theorem Tri.drew {w : World} {k : Nat} {X Y Z : Array Value} (h : Tri w k X Y Z) : Tri w.drew k X Y Z := h
theorem Tri.al {w : World} {k : Nat} {X Y Z : Array Value} (h : Tri w k X Y Z) (o : Obj) : Tri (w.alloc o) k X Y Z := ⟨h.1.alloc _, h.2.1.alloc _, h.2.2.alloc _⟩

set_option maxHeartbeats 3200000 in
theorem refPrRead_a (s : ByteArray) (w : World) (hs : s.size ≤ 1000000) (h : ¬ 2 ≤ s.size) :
    Calls Tryd.prog 20 #[.string s] w fun r w' => r = .returned (.tuple #[.agg (brC zBr), .agg (ptC 0 0), .agg (ftC 7 0)]) ∧ Below w.heap.size w w' := by
  have F1 : Tri (((w.alloc (.cells (brC zBr) 25)).alloc (.cells (ptC 0 0) 27)).alloc (.cells (ftC 0 0) 42)) w.heap.size (brC zBr) (ptC 0 0) (ftC 0 0) := by
    obtain ⟨HA0, HB0, B0⟩ := two_blks w 25 27 (brC zBr) (ptC 0 0)
    have HC0 := Blk.new ((w.alloc (.cells (brC zBr) 25)).alloc (.cells (ptC 0 0) 27)) 42 (ftC 0 0)
    rw [show ((w.alloc (.cells (brC zBr) 25)).alloc (.cells (ptC 0 0) 27)).heap.size = w.heap.size + 2 by simp] at HC0
    exact ⟨HA0.alloc _, HB0.alloc _, HC0⟩
  have B1 : Below w.heap.size w (((w.alloc (.cells (brC zBr) 25)).alloc (.cells (ptC 0 0) 27)).alloc (.cells (ftC 0 0) 42)) :=
    (((Below.refl _ _).alloc (Nat.le_refl _) _).alloc (by simp) _).alloc (by simp; omega) _
  go_enter_defers Tryd.func20, Tryd.ntmps20
  go_upto_region 1 with (first
    | (refine alloc_blk 25 (brC zBr) (by rfl) rfl Tryd.brZero ?_)
    | (refine alloc_blk 27 (ptC 0 0) (by rfl) rfl Tryd.ptZero ?_)
    | (refine alloc_blk 42 (ftC 0 0) (by rfl) rfl Tryd.ftZero ?_))
  generalize (((w.alloc (.cells (brC zBr) 25)).alloc (.cells (ptC 0 0) 27)).alloc (.cells (ftC 0 0) 42)) = w1 at *
  go_wp2_with fail
  refine (good_any _).mono ?_
  rintro e w2 ⟨rfl, b2⟩
  have F2 := F1.kept b2
  have B2 := B1.trans (b2.mono B1.size)
  clear F1 B1 b2
  go_upto_region 3 with (refine store_blk (k := 0) 42 (.agg (ftC 0 (-1))) (ftC 0 (-1)) (by rfl) rfl rfl rfl F2.2.2 (by kernel_rfl) (by exact Nat.le_refl 2) rfl rfl (fun w3 HE3 b3 g3 => ?_))
  have F3 : Tri w3 w.heap.size (brC zBr) (ptC 0 0) (ftC 0 (-1)) := ⟨F2.1.grown g3 (by simp <;> omega), F2.2.1.grown g3 (by simp <;> omega), HE3⟩
  have B3 : Below w.heap.size w w3 := B2.trans (b3.mono (by omega))
  clear F2 HE3 B2 b3 g3
  have F4 := F3.al (.cells #[.string s, .int .i64 (0 : Nat), .int .i64 (0 : Nat)] 80)
  have HC4 : Cur (w3.alloc (.cells #[.string s, .int .i64 (0 : Nat), .int .i64 (0 : Nat)] 80)) w3.heap.size s 0 0 := Blk.new w3 80 _
  have B4 := B3.alloc B3.size (.cells #[.string s, .int .i64 (0 : Nat), .int .i64 (0 : Nat)] 80)
  have hc4 : w.heap.size + 2 < w3.heap.size := F3.2.2.lt
  clear F3 B3
  go_upto_region 4 with (refine build_blk (t := 80) #[.string s, .int .i64 (0 : Nat), .int .i64 (0 : Nat)] (by rfl) rfl (by kernel_rfl) ?_)
  generalize w3.alloc (.cells #[.string s, .int .i64 0, .int .i64 0] 80) = w4 at *
  generalize w3.heap.size = c at *
  have hEc : w.heap.size + 2 < c := hc4
  clear hc4
  go_wp2_with fail
  refine (cbridge_bad1 HC4 (by omega) (by omega) (by omega)).mono ?_
  rintro e w5 ⟨rfl, g5⟩
  have F5 := F4.grown g5 (by omega)
  have B5 := grown_belowA B4 g5 B4.size (by omega)
  go_wp2
  exact rd_door_bad rfl rfl rfl F5.1 F5.2.1 F5.2.2 rfl rfl (by omega) (by omega) (by omega) B5

set_option maxHeartbeats 3200000 in
theorem refPrRead_b (s : ByteArray) (w : World) (hs : s.size ≤ 1000000) (h : 2 ≤ s.size) (h2 : ¬ 8 ≤ s.size) :
    Calls Tryd.prog 20 #[.string s] w fun r w' => r = .returned (.tuple #[.agg (brC zBr), .agg (ptC 0 0), .agg (ftC 7 2)]) ∧ Below w.heap.size w w' := by
  have F1 : Tri (((w.alloc (.cells (brC zBr) 25)).alloc (.cells (ptC 0 0) 27)).alloc (.cells (ftC 0 0) 42)) w.heap.size (brC zBr) (ptC 0 0) (ftC 0 0) := by
    obtain ⟨HA0, HB0, B0⟩ := two_blks w 25 27 (brC zBr) (ptC 0 0)
    have HC0 := Blk.new ((w.alloc (.cells (brC zBr) 25)).alloc (.cells (ptC 0 0) 27)) 42 (ftC 0 0)
    rw [show ((w.alloc (.cells (brC zBr) 25)).alloc (.cells (ptC 0 0) 27)).heap.size = w.heap.size + 2 by simp] at HC0
    exact ⟨HA0.alloc _, HB0.alloc _, HC0⟩
  have B1 : Below w.heap.size w (((w.alloc (.cells (brC zBr) 25)).alloc (.cells (ptC 0 0) 27)).alloc (.cells (ftC 0 0) 42)) :=
    (((Below.refl _ _).alloc (Nat.le_refl _) _).alloc (by simp) _).alloc (by simp; omega) _
  go_enter_defers Tryd.func20, Tryd.ntmps20
  go_upto_region 1 with (first
    | (refine alloc_blk 25 (brC zBr) (by rfl) rfl Tryd.brZero ?_)
    | (refine alloc_blk 27 (ptC 0 0) (by rfl) rfl Tryd.ptZero ?_)
    | (refine alloc_blk 42 (ftC 0 0) (by rfl) rfl Tryd.ftZero ?_))
  generalize (((w.alloc (.cells (brC zBr) 25)).alloc (.cells (ptC 0 0) 27)).alloc (.cells (ftC 0 0) 42)) = w1 at *
  go_wp2_with fail
  refine (good_any _).mono ?_
  rintro e w2 ⟨rfl, b2⟩
  have F2 := F1.kept b2
  have B2 := B1.trans (b2.mono B1.size)
  clear F1 B1 b2
  go_upto_region 3 with (refine store_blk (k := 0) 42 (.agg (ftC 0 (-1))) (ftC 0 (-1)) (by rfl) rfl rfl rfl F2.2.2 (by kernel_rfl) (by exact Nat.le_refl 2) rfl rfl (fun w3 HE3 b3 g3 => ?_))
  have F3 : Tri w3 w.heap.size (brC zBr) (ptC 0 0) (ftC 0 (-1)) := ⟨F2.1.grown g3 (by simp <;> omega), F2.2.1.grown g3 (by simp <;> omega), HE3⟩
  have B3 : Below w.heap.size w w3 := B2.trans (b3.mono (by omega))
  clear F2 HE3 B2 b3 g3
  have F4 := F3.al (.cells #[.string s, .int .i64 (0 : Nat), .int .i64 (0 : Nat)] 80)
  have HC4 : Cur (w3.alloc (.cells #[.string s, .int .i64 (0 : Nat), .int .i64 (0 : Nat)] 80)) w3.heap.size s 0 0 := Blk.new w3 80 _
  have B4 := B3.alloc B3.size (.cells #[.string s, .int .i64 (0 : Nat), .int .i64 (0 : Nat)] 80)
  have hc4 : w.heap.size + 2 < w3.heap.size := F3.2.2.lt
  clear F3 B3
  go_upto_region 4 with (refine build_blk (t := 80) #[.string s, .int .i64 (0 : Nat), .int .i64 (0 : Nat)] (by rfl) rfl (by kernel_rfl) ?_)
  generalize w3.alloc (.cells #[.string s, .int .i64 0, .int .i64 0] 80) = w4 at *
  generalize w3.heap.size = c at *
  have hEc : w.heap.size + 2 < c := hc4
  clear hc4
  go_wp2_with fail
  refine (cbridge_bad2 HC4 (by omega) (by omega) (by omega)).mono ?_
  rintro e w5 ⟨rfl, g5⟩
  have F5 := F4.grown g5 (by omega)
  have B5 := grown_belowA B4 g5 B4.size (by omega)
  go_wp2
  exact rd_door_bad rfl rfl rfl F5.1 F5.2.1 F5.2.2 rfl rfl (by omega) (by omega) (by omega) B5

set_option maxHeartbeats 3200000 in
theorem refPrRead_c (s : ByteArray) (w : World) (hs : s.size ≤ 1000000) (h : 8 ≤ s.size) (h2 : ¬ 10 ≤ s.size) :
    Calls Tryd.prog 20 #[.string s] w fun r w' => r = .returned (.tuple #[.agg (brC (brAt s 0)), .agg (ptC 0 0), .agg (ftC 7 8)]) ∧ Below w.heap.size w w' := by
  have hone : (Value.agg (brC (brAt s 0))).cells.toList.all (·.oneCell') = true := rfl
  have hbs : (brC (brAt s 0)).size = 8 := rfl
  have HBX : Hid (∀ {c : Nat} (W : World), Cur W c s 0 0 → Calls Tryd.prog 44 #[.pointer (some ⟨c, 0, none⟩)] W fun r w' => r = .returned (.agg (brC (brAt s 0))) ∧ Cur w' c s (0 + 8) 0 ∧ W.grownBy w' (some c)) := fun W h => cbridge_ok h (by omega) (by omega)
  generalize brC (brAt s 0) = X at *
  have F1 : Tri (((w.alloc (.cells (brC zBr) 25)).alloc (.cells (ptC 0 0) 27)).alloc (.cells (ftC 0 0) 42)) w.heap.size (brC zBr) (ptC 0 0) (ftC 0 0) := by
    obtain ⟨HA0, HB0, B0⟩ := two_blks w 25 27 (brC zBr) (ptC 0 0)
    have HC0 := Blk.new ((w.alloc (.cells (brC zBr) 25)).alloc (.cells (ptC 0 0) 27)) 42 (ftC 0 0)
    rw [show ((w.alloc (.cells (brC zBr) 25)).alloc (.cells (ptC 0 0) 27)).heap.size = w.heap.size + 2 by simp] at HC0
    exact ⟨HA0.alloc _, HB0.alloc _, HC0⟩
  have B1 : Below w.heap.size w (((w.alloc (.cells (brC zBr) 25)).alloc (.cells (ptC 0 0) 27)).alloc (.cells (ftC 0 0) 42)) :=
    (((Below.refl _ _).alloc (Nat.le_refl _) _).alloc (by simp) _).alloc (by simp; omega) _
  go_enter_defers Tryd.func20, Tryd.ntmps20
  go_upto_region 1 with (first
    | (refine alloc_blk 25 (brC zBr) (by rfl) rfl Tryd.brZero ?_)
    | (refine alloc_blk 27 (ptC 0 0) (by rfl) rfl Tryd.ptZero ?_)
    | (refine alloc_blk 42 (ftC 0 0) (by rfl) rfl Tryd.ftZero ?_))
  generalize (((w.alloc (.cells (brC zBr) 25)).alloc (.cells (ptC 0 0) 27)).alloc (.cells (ftC 0 0) 42)) = w1 at *
  go_wp2_with fail
  refine (good_any _).mono ?_
  rintro e w2 ⟨rfl, b2⟩
  have F2 := F1.kept b2
  have B2 := B1.trans (b2.mono B1.size)
  clear F1 B1 b2
  go_upto_region 3 with (refine store_blk (k := 0) 42 (.agg (ftC 0 (-1))) (ftC 0 (-1)) (by rfl) rfl rfl rfl F2.2.2 (by kernel_rfl) (by exact Nat.le_refl 2) rfl rfl (fun w3 HE3 b3 g3 => ?_))
  have F3 : Tri w3 w.heap.size (brC zBr) (ptC 0 0) (ftC 0 (-1)) := ⟨F2.1.grown g3 (by simp <;> omega), F2.2.1.grown g3 (by simp <;> omega), HE3⟩
  have B3 : Below w.heap.size w w3 := B2.trans (b3.mono (by omega))
  clear F2 HE3 B2 b3 g3
  have F4 := F3.al (.cells #[.string s, .int .i64 (0 : Nat), .int .i64 (0 : Nat)] 80)
  have HC4 : Cur (w3.alloc (.cells #[.string s, .int .i64 (0 : Nat), .int .i64 (0 : Nat)] 80)) w3.heap.size s 0 0 := Blk.new w3 80 _
  have B4 := B3.alloc B3.size (.cells #[.string s, .int .i64 (0 : Nat), .int .i64 (0 : Nat)] 80)
  have hc4 : w.heap.size + 2 < w3.heap.size := F3.2.2.lt
  clear F3 B3
  go_upto_region 4 with (refine build_blk (t := 80) #[.string s, .int .i64 (0 : Nat), .int .i64 (0 : Nat)] (by rfl) rfl (by kernel_rfl) ?_)
  generalize w3.alloc (.cells #[.string s, .int .i64 0, .int .i64 0] 80) = w4 at *
  generalize w3.heap.size = c at *
  have hEc : w.heap.size + 2 < c := hc4
  clear hc4
  go_wp2_with fail
  refine (HBX.out _ HC4).mono ?_
  rintro e w5 ⟨rfl, HC5, g5⟩
  have F5 := F4.grown g5 (by omega)
  have B5 := grown_belowA B4 g5 B4.size (by omega)
  clear F4 B4 HC4 g5
  go_wp2_with (refine store_blk (k := 0) 25 (.agg X) X (by rfl) rfl rfl rfl F5.1 (by rw [show (Value.agg X).cells = X from rfl, hbs]; kernel_rfl) (by show 0 + X.toList.length ≤ 8; simp; omega) (hone) (st_whole _ _ hbs.symm) ?_; intro w6 A6 b6 g6; have F6 : Tri w6 w.heap.size X (ptC 0 0) (ftC 0 (-1)) := ⟨A6, F5.2.1.grown g6 (by simp <;> omega), F5.2.2.grown g6 (by simp <;> omega)⟩; have HC6 : Cur w6 c s (0 + 8) 0 := Blk.grown HC5 g6 (by simp; omega); have B6 := grown_belowA B5 g6 B5.size (Nat.le_refl _); clear F5 HC5 B5 b6 g6 A6)
  refine (cport_bad1 HC6 (by omega) (by omega) (by omega)).mono ?_
  rintro e w7 ⟨rfl, g7⟩
  have F7 := F6.grown g7 (by omega)
  have B7 := grown_belowA B6 g7 B6.size (by omega)
  go_wp2
  exact rd_door_bad rfl rfl rfl F7.1 F7.2.1 F7.2.2 hbs rfl (by omega) (by omega) (by omega) B7

set_option maxHeartbeats 3200000 in
theorem refPrRead_d (s : ByteArray) (w : World) (hs : s.size ≤ 1000000) (h : 10 ≤ s.size) (hz : beAt s 8 % 4096 = 0) :
    Calls Tryd.prog 20 #[.string s] w fun r w' => r = .returned (.tuple #[.agg (brC (brAt s 0)), .agg (ptC 0 0), .agg (ftC 2 8)]) ∧ Below w.heap.size w w' := by
  have hone : (Value.agg (brC (brAt s 0))).cells.toList.all (·.oneCell') = true := rfl
  have hbs : (brC (brAt s 0)).size = 8 := rfl
  have HBX : Hid (∀ {c : Nat} (W : World), Cur W c s 0 0 → Calls Tryd.prog 44 #[.pointer (some ⟨c, 0, none⟩)] W fun r w' => r = .returned (.agg (brC (brAt s 0))) ∧ Cur w' c s (0 + 8) 0 ∧ W.grownBy w' (some c)) := fun W h => cbridge_ok h (by omega) (by omega)
  generalize brC (brAt s 0) = X at *
  have F1 : Tri (((w.alloc (.cells (brC zBr) 25)).alloc (.cells (ptC 0 0) 27)).alloc (.cells (ftC 0 0) 42)) w.heap.size (brC zBr) (ptC 0 0) (ftC 0 0) := by
    obtain ⟨HA0, HB0, B0⟩ := two_blks w 25 27 (brC zBr) (ptC 0 0)
    have HC0 := Blk.new ((w.alloc (.cells (brC zBr) 25)).alloc (.cells (ptC 0 0) 27)) 42 (ftC 0 0)
    rw [show ((w.alloc (.cells (brC zBr) 25)).alloc (.cells (ptC 0 0) 27)).heap.size = w.heap.size + 2 by simp] at HC0
    exact ⟨HA0.alloc _, HB0.alloc _, HC0⟩
  have B1 : Below w.heap.size w (((w.alloc (.cells (brC zBr) 25)).alloc (.cells (ptC 0 0) 27)).alloc (.cells (ftC 0 0) 42)) :=
    (((Below.refl _ _).alloc (Nat.le_refl _) _).alloc (by simp) _).alloc (by simp; omega) _
  go_enter_defers Tryd.func20, Tryd.ntmps20
  go_upto_region 1 with (first
    | (refine alloc_blk 25 (brC zBr) (by rfl) rfl Tryd.brZero ?_)
    | (refine alloc_blk 27 (ptC 0 0) (by rfl) rfl Tryd.ptZero ?_)
    | (refine alloc_blk 42 (ftC 0 0) (by rfl) rfl Tryd.ftZero ?_))
  generalize (((w.alloc (.cells (brC zBr) 25)).alloc (.cells (ptC 0 0) 27)).alloc (.cells (ftC 0 0) 42)) = w1 at *
  go_wp2_with fail
  refine (good_any _).mono ?_
  rintro e w2 ⟨rfl, b2⟩
  have F2 := F1.kept b2
  have B2 := B1.trans (b2.mono B1.size)
  clear F1 B1 b2
  go_upto_region 3 with (refine store_blk (k := 0) 42 (.agg (ftC 0 (-1))) (ftC 0 (-1)) (by rfl) rfl rfl rfl F2.2.2 (by kernel_rfl) (by exact Nat.le_refl 2) rfl rfl (fun w3 HE3 b3 g3 => ?_))
  have F3 : Tri w3 w.heap.size (brC zBr) (ptC 0 0) (ftC 0 (-1)) := ⟨F2.1.grown g3 (by simp <;> omega), F2.2.1.grown g3 (by simp <;> omega), HE3⟩
  have B3 : Below w.heap.size w w3 := B2.trans (b3.mono (by omega))
  clear F2 HE3 B2 b3 g3
  have F4 := F3.al (.cells #[.string s, .int .i64 (0 : Nat), .int .i64 (0 : Nat)] 80)
  have HC4 : Cur (w3.alloc (.cells #[.string s, .int .i64 (0 : Nat), .int .i64 (0 : Nat)] 80)) w3.heap.size s 0 0 := Blk.new w3 80 _
  have B4 := B3.alloc B3.size (.cells #[.string s, .int .i64 (0 : Nat), .int .i64 (0 : Nat)] 80)
  have hc4 : w.heap.size + 2 < w3.heap.size := F3.2.2.lt
  clear F3 B3
  go_upto_region 4 with (refine build_blk (t := 80) #[.string s, .int .i64 (0 : Nat), .int .i64 (0 : Nat)] (by rfl) rfl (by kernel_rfl) ?_)
  generalize w3.alloc (.cells #[.string s, .int .i64 0, .int .i64 0] 80) = w4 at *
  generalize w3.heap.size = c at *
  have hEc : w.heap.size + 2 < c := hc4
  clear hc4
  go_wp2_with fail
  refine (HBX.out _ HC4).mono ?_
  rintro e w5 ⟨rfl, HC5, g5⟩
  have F5 := F4.grown g5 (by omega)
  have B5 := grown_belowA B4 g5 B4.size (by omega)
  clear F4 B4 HC4 g5
  go_wp2_with (refine store_blk (k := 0) 25 (.agg X) X (by rfl) rfl rfl rfl F5.1 (by rw [show (Value.agg X).cells = X from rfl, hbs]; kernel_rfl) (by show 0 + X.toList.length ≤ 8; simp; omega) (hone) (st_whole _ _ hbs.symm) ?_; intro w6 A6 b6 g6; have F6 : Tri w6 w.heap.size X (ptC 0 0) (ftC 0 (-1)) := ⟨A6, F5.2.1.grown g6 (by simp <;> omega), F5.2.2.grown g6 (by simp <;> omega)⟩; have HC6 : Cur w6 c s (0 + 8) 0 := Blk.grown HC5 g6 (by simp; omega); have B6 := grown_belowA B5 g6 B5.size (Nat.le_refl _); clear F5 HC5 B5 b6 g6 A6)
  refine (cport_bad2 HC6 (by omega) hz (by omega)).mono ?_
  rintro e w7 ⟨rfl, g7⟩
  have F7 := F6.grown g7 (by omega)
  have B7 := grown_belowA B6 g7 B6.size (by omega)
  go_wp2
  exact rd_door_bad rfl rfl rfl F7.1 F7.2.1 F7.2.2 hbs rfl (by omega) (by omega) (by omega) B7

set_option maxHeartbeats 3200000 in
theorem refPrRead_e (s : ByteArray) (w : World) (hs : s.size ≤ 1000000) (h : 10 ≤ s.size) (hz : ¬ beAt s 8 % 4096 = 0) :
    Calls Tryd.prog 20 #[.string s] w fun r w' => r = .returned (.tuple #[.agg (brC (brAt s 0)), .agg (ptAt s 8), .agg (ftC 0 (-1))]) ∧ Below w.heap.size w w' := by
  have hone : (Value.agg (brC (brAt s 0))).cells.toList.all (·.oneCell') = true := rfl
  have hbs : (brC (brAt s 0)).size = 8 := rfl
  have HBX : Hid (∀ {c : Nat} (W : World), Cur W c s 0 0 → Calls Tryd.prog 44 #[.pointer (some ⟨c, 0, none⟩)] W fun r w' => r = .returned (.agg (brC (brAt s 0))) ∧ Cur w' c s (0 + 8) 0 ∧ W.grownBy w' (some c)) := fun W h => cbridge_ok h (by omega) (by omega)
  generalize brC (brAt s 0) = X at *
  have honeP : (Value.agg (ptAt s 8)).cells.toList.all (·.oneCell') = true := rfl
  have hps : (ptAt s 8).size = 2 := rfl
  have HPY : Hid (∀ {c : Nat} (W : World), Cur W c s (0 + 8) 0 → Calls Tryd.prog 45 #[.pointer (some ⟨c, 0, none⟩)] W fun r w' => r = .returned (.agg (ptAt s 8)) ∧ Cur w' c s (0 + 8 + 2) 0 ∧ W.grownBy w' (some c)) := fun W h => cport_ok h (by omega) hz (by omega)
  generalize ptAt s 8 = Y at *
  have F1 : Tri (((w.alloc (.cells (brC zBr) 25)).alloc (.cells (ptC 0 0) 27)).alloc (.cells (ftC 0 0) 42)) w.heap.size (brC zBr) (ptC 0 0) (ftC 0 0) := by
    obtain ⟨HA0, HB0, B0⟩ := two_blks w 25 27 (brC zBr) (ptC 0 0)
    have HC0 := Blk.new ((w.alloc (.cells (brC zBr) 25)).alloc (.cells (ptC 0 0) 27)) 42 (ftC 0 0)
    rw [show ((w.alloc (.cells (brC zBr) 25)).alloc (.cells (ptC 0 0) 27)).heap.size = w.heap.size + 2 by simp] at HC0
    exact ⟨HA0.alloc _, HB0.alloc _, HC0⟩
  have B1 : Below w.heap.size w (((w.alloc (.cells (brC zBr) 25)).alloc (.cells (ptC 0 0) 27)).alloc (.cells (ftC 0 0) 42)) :=
    (((Below.refl _ _).alloc (Nat.le_refl _) _).alloc (by simp) _).alloc (by simp; omega) _
  go_enter_defers Tryd.func20, Tryd.ntmps20
  go_upto_region 1 with (first
    | (refine alloc_blk 25 (brC zBr) (by rfl) rfl Tryd.brZero ?_)
    | (refine alloc_blk 27 (ptC 0 0) (by rfl) rfl Tryd.ptZero ?_)
    | (refine alloc_blk 42 (ftC 0 0) (by rfl) rfl Tryd.ftZero ?_))
  generalize (((w.alloc (.cells (brC zBr) 25)).alloc (.cells (ptC 0 0) 27)).alloc (.cells (ftC 0 0) 42)) = w1 at *
  go_wp2_with fail
  refine (good_any _).mono ?_
  rintro e w2 ⟨rfl, b2⟩
  have F2 := F1.kept b2
  have B2 := B1.trans (b2.mono B1.size)
  clear F1 B1 b2
  go_upto_region 3 with (refine store_blk (k := 0) 42 (.agg (ftC 0 (-1))) (ftC 0 (-1)) (by rfl) rfl rfl rfl F2.2.2 (by kernel_rfl) (by exact Nat.le_refl 2) rfl rfl (fun w3 HE3 b3 g3 => ?_))
  have F3 : Tri w3 w.heap.size (brC zBr) (ptC 0 0) (ftC 0 (-1)) := ⟨F2.1.grown g3 (by simp <;> omega), F2.2.1.grown g3 (by simp <;> omega), HE3⟩
  have B3 : Below w.heap.size w w3 := B2.trans (b3.mono (by omega))
  clear F2 HE3 B2 b3 g3
  have F4 := F3.al (.cells #[.string s, .int .i64 (0 : Nat), .int .i64 (0 : Nat)] 80)
  have HC4 : Cur (w3.alloc (.cells #[.string s, .int .i64 (0 : Nat), .int .i64 (0 : Nat)] 80)) w3.heap.size s 0 0 := Blk.new w3 80 _
  have B4 := B3.alloc B3.size (.cells #[.string s, .int .i64 (0 : Nat), .int .i64 (0 : Nat)] 80)
  have hc4 : w.heap.size + 2 < w3.heap.size := F3.2.2.lt
  clear F3 B3
  go_upto_region 4 with (refine build_blk (t := 80) #[.string s, .int .i64 (0 : Nat), .int .i64 (0 : Nat)] (by rfl) rfl (by kernel_rfl) ?_)
  generalize w3.alloc (.cells #[.string s, .int .i64 0, .int .i64 0] 80) = w4 at *
  generalize w3.heap.size = c at *
  have hEc : w.heap.size + 2 < c := hc4
  clear hc4
  go_wp2_with fail
  refine (HBX.out _ HC4).mono ?_
  rintro e w5 ⟨rfl, HC5, g5⟩
  have F5 := F4.grown g5 (by omega)
  have B5 := grown_belowA B4 g5 B4.size (by omega)
  clear F4 B4 HC4 g5
  go_wp2_with (refine store_blk (k := 0) 25 (.agg X) X (by rfl) rfl rfl rfl F5.1 (by rw [show (Value.agg X).cells = X from rfl, hbs]; kernel_rfl) (by show 0 + X.toList.length ≤ 8; simp; omega) (hone) (st_whole _ _ hbs.symm) ?_; intro w6 A6 b6 g6; have F6 : Tri w6 w.heap.size X (ptC 0 0) (ftC 0 (-1)) := ⟨A6, F5.2.1.grown g6 (by simp <;> omega), F5.2.2.grown g6 (by simp <;> omega)⟩; have HC6 : Cur w6 c s (0 + 8) 0 := Blk.grown HC5 g6 (by simp; omega); have B6 := grown_belowA B5 g6 B5.size (Nat.le_refl _); clear F5 HC5 B5 b6 g6 A6)
  refine (HPY.out _ HC6).mono ?_
  rintro e w7 ⟨rfl, HC7, g7⟩
  have F7 := F6.grown g7 (by omega)
  have B7 := grown_belowA B6 g7 B6.size (by omega)
  clear F6 B6 HC6 g7 HC7
  go_upto_region 6 with (refine store_blk (k := 0) 27 (.agg Y) Y (by rfl) rfl rfl rfl F7.2.1 (by rw [show (Value.agg Y).cells = Y from rfl, hps]; kernel_rfl) (by show 0 + Y.toList.length ≤ 2; simp; omega) (honeP) (st_whole _ _ hps.symm) ?_; intro w8 A8 b8 g8; have F8 : Tri w8 w.heap.size X Y (ftC 0 (-1)) := ⟨F7.1.grown g8 (by simp <;> omega), A8, F7.2.2.grown g8 (by simp <;> omega)⟩; have B8 := grown_belowA B7 g8 B7.size (by omega); clear F7 B7 b8 g8 A8)
  (try simp only [Act.put, List.setIfInBounds_toArray, List.set_cons_zero, List.set_cons_succ])
  refine wp_region_noPanic ?_
  refine wp_region_held_drew (S := (fun w' => Tri w' w.heap.size X Y (ftC 0 (-1)))) (by kernel_rfl) ?_ (fun hHeld => ?_)
  · exact F8
  refine wpAnyH_take (i := 0) (v := .agg X) rfl (by kernel_rfl) (by kernel_rfl) (by kernel_rfl) (fun _ _ _ h => h) (Or.inl ⟨by rfl, fun w hSw => exec_load_blk (k := 0) 25 X rfl rfl hSw.1 (by kernel_rfl) (by rw [hbs]; kernel_rfl) (by rw [List.drop_zero]; exact List.take_of_length_le (by simp))⟩) (by assumption) ?_
  (try simp only [Act.put, List.getElem_toArray, List.getElem_cons_zero, List.getElem_cons_succ, List.setIfInBounds_toArray, List.set_cons_zero, List.set_cons_succ])
  refine wpAnyH_take (i := 1) (v := .agg Y) rfl (by kernel_rfl) (by kernel_rfl) (by kernel_rfl) (fun _ _ _ h => h) (Or.inl ⟨by rfl, fun w hSw => exec_load_blk (k := 0) 27 Y rfl rfl hSw.2.1 (by kernel_rfl) (by rw [hps]; kernel_rfl) (by rw [List.drop_zero]; exact List.take_of_length_le (by simp))⟩) (by assumption) ?_
  (try simp only [Act.put, List.getElem_toArray, List.getElem_cons_zero, List.getElem_cons_succ, List.setIfInBounds_toArray, List.set_cons_zero, List.set_cons_succ])
  refine wpAnyH_take (i := 2) (v := .agg (ftC 0 (-1))) rfl (by kernel_rfl) (by kernel_rfl) (by kernel_rfl) (fun _ _ _ h => h) (Or.inl ⟨by rfl, fun w hSw => exec_load_blk (k := 0) 42 (ftC 0 (-1)) rfl rfl hSw.2.2 (by kernel_rfl) (by kernel_rfl) (rfl)⟩) (by assumption) ?_
  (try simp only [Act.put, List.getElem_toArray, List.getElem_cons_zero, List.getElem_cons_succ, List.setIfInBounds_toArray, List.set_cons_zero, List.set_cons_succ])
  have Fd := F8.drew
  have Bd := B8.drew
  generalize w8.drew = wd at *
  refine wpAnyH_ready (rs := [3]) (by kernel_rfl) (by simp) ?_
  refine (AllReadyH.cons rfl (fun K hK => ?_) AllReadyH.nil)
  simp only [List.getElem_toArray, List.getElem_cons_zero, List.getElem_cons_succ]
  rw [if_pos (by rfl)]
  refine wp_store_op (k := 0) 25 (.agg X) X (by rfl) rfl rfl Fd.1 (by rw [show (Value.agg X).cells = X from rfl, hbs]; kernel_rfl) (by show 0 + X.toList.length ≤ X.size; simp) (hone) (st_whole _ _ rfl) (fun w9 H9 b9 g9 => ?_)
  have F9 : Tri w9 w.heap.size X Y (ftC 0 (-1)) := ⟨H9, Fd.2.1.grown g9 (by simp <;> omega), Fd.2.2.grown g9 (by simp <;> omega)⟩
  have B9 := grown_belowA Bd g9 Bd.size (Nat.le_refl _)
  refine hK.out _ _ ?_ (fun hHeld => ?_)
  · exact F9
  clear hK K
  (try simp only [Act.put, List.getElem_toArray, List.getElem_cons_zero, List.getElem_cons_succ, List.setIfInBounds_toArray, List.set_cons_zero, List.set_cons_succ])
  refine wpAnyH_ready (rs := [4]) (by kernel_rfl) (by simp) ?_
  refine (AllReadyH.cons rfl (fun K hK => ?_) AllReadyH.nil)
  simp only [List.getElem_toArray, List.getElem_cons_zero, List.getElem_cons_succ]
  rw [if_pos (by rfl)]
  refine wp_store_op (k := 0) 27 (.agg Y) Y (by rfl) rfl rfl F9.2.1 (by rw [show (Value.agg Y).cells = Y from rfl, hps]; kernel_rfl) (by show 0 + Y.toList.length ≤ Y.size; simp) (honeP) (st_whole _ _ rfl) (fun w10 H10 b10 g10 => ?_)
  have F10 : Tri w10 w.heap.size X Y (ftC 0 (-1)) := ⟨F9.1.grown g10 (by simp <;> omega), H10, F9.2.2.grown g10 (by simp <;> omega)⟩
  have B10 := grown_belowA B9 g10 B9.size (by omega)
  refine hK.out _ _ ?_ (fun hHeld => ?_)
  · exact F10
  clear hK K
  (try simp only [Act.put, List.getElem_toArray, List.getElem_cons_zero, List.getElem_cons_succ, List.setIfInBounds_toArray, List.set_cons_zero, List.set_cons_succ])
  refine wpAnyH_ready (rs := [5]) (by kernel_rfl) (by simp) ?_
  refine (AllReadyH.cons rfl (fun K hK => ?_) AllReadyH.nil)
  simp only [List.getElem_toArray, List.getElem_cons_zero, List.getElem_cons_succ]
  rw [if_pos (by rfl)]
  refine wp_store_op (k := 0) 42 (.agg (ftC 0 (-1))) (ftC 0 (-1)) (by rfl) rfl rfl F10.2.2 (by kernel_rfl) (by exact Nat.le_refl 2) (rfl) (st_whole _ _ rfl) (fun w11 H11 b11 g11 => ?_)
  have F11 : Tri w11 w.heap.size X Y (ftC 0 (-1)) := ⟨F10.1.grown g11 (by simp <;> omega), F10.2.1.grown g11 (by simp <;> omega), H11⟩
  have B11 := grown_belowA B10 g11 B10.size (by omega)
  refine hK.out _ _ ?_ (fun hHeld => ?_)
  · exact F11
  clear hK K
  (try simp only [Act.put, List.getElem_toArray, List.getElem_cons_zero, List.getElem_cons_succ, List.setIfInBounds_toArray, List.set_cons_zero, List.set_cons_succ])
  refine wpAnyH_done (by kernel_rfl) ?_ _
  refine NoPanic.normal ?_
  go_wp2
  exact rd_door_ok rfl rfl rfl F11.1 F11.2.1 F11.2.2 hbs hps rfl B11

end Go.Proofs.YtceiiolpggolbaaDoor
