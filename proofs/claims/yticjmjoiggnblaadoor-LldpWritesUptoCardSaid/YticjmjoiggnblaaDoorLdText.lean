/- lldp.nameText, lldp.manageText. -/
import Derived.Test.YticjmjoiggnblaaDoorJoinB
import Derived.Test.YticjmjoiggnblaaDoorMust
import Derived.Test.YticjmjoiggnblaaDoorNumK
import Derived.Test.YticjmjoiggnblaaDoorStOp
import Derived.Test.YticjmjoiggnblaaDoorCells
import Derived.Great.BuildSlice
import Derived.Lib.SmallJoins
namespace Go.Proofs.YticjmjoiggnblaaDoor
open Go.RowKit
attribute [local go_sem ↓] Go.wp_at_zero Go.wp_at_succ
set_option linter.unusedSimpArgs false
set_option linter.unusedVariables false
set_option maxRecDepth 100000

theorem Tryd.stParts : (Tryd.prog.info? 9).map (fun i => (i.zero, i.size, i.bytes)) = some (some (.string ⟨#[]⟩), 1, 16) := by kernel_rfl
theorem fill_st (v : ByteArray) : Instr.fill (fun i => some (i * 1, 1)) ((Array.range (1 * 1)).map ((Value.string ⟨#[]⟩).cells[· % (Value.string ⟨#[]⟩).cells.size]!)) [(0, .string v)] = some (stC v) := by kernel_rfl
theorem fill_st6 (a b c d e f : ByteArray) : Instr.fill (fun i => some (i * 1, 1)) ((Array.range (6 * 1)).map ((Value.string ⟨#[]⟩).cells[· % (Value.string ⟨#[]⟩).cells.size]!)) [(0, .string a), (1, .string b), (2, .string c), (3, .string d), (4, .string e), (5, .string f)] = some #[.string a, .string b, .string c, .string d, .string e, .string f] := by kernel_rfl
/-- A list of one text. -/
theorem slice_st {o : Oper} {a : Act} {w : World} {K : Act → World → Prop} {Q : Exit → Act → World → Prop} {x : Operand} (y : ByteArray) (ho : o.op = .buildSlice 49 1 #[(0, x)]) (hx : a.eval x = .string y)
    (h : ∀ w1, Blk w1 w.heap.size 9 (stC y) → Below w.heap.size w w1 → w.heap.size < w1.heap.size → K (a.put o.dst (.slice (some ⟨w.heap.size, 0, none⟩) 1 1)) w1) : Oper.wp Tryd.prog o a w K Q := by
  obtain ⟨i0, hi, hz0, hz1, hz2⟩ := info_parts Tryd.stParts
  refine wp_buildSlice 49 9 1 _ ho (stC y) i0 (.string ⟨#[]⟩) Tryd.underlying49 hi hz0 (by rw [hz1]; decide) (by rw [hz1]; decide) (by rw [hz1]; simp only [List.map_toArray, List.map_cons, List.map_nil, hx]; exact fill_st y) (h _ (Blk.new w _ _) ((Below.refl _ _).alloc (Nat.le_refl _) _) (Blk.new w _ _).lt)
theorem sliceL_st {ops : Array Oper} {rest : List Oper} {o : Oper} {a : Act} {w : World} {Q : Exit → Act → World → Prop} {x : Operand} (y : ByteArray) (hg : o.guard = none) (ho : o.op = .buildSlice 49 1 #[(0, x)]) (hx : a.eval x = .string y)
    (h : ∀ w1, Blk w1 w.heap.size 9 (stC y) → Below w.heap.size w w1 → w.heap.size < w1.heap.size → wpList Tryd.prog ops Q rest (a.put o.dst (.slice (some ⟨w.heap.size, 0, none⟩) 1 1)) w1) : wpList Tryd.prog ops Q (o :: rest) a w :=
  wpList_plain hg fun _ hK => slice_st y ho hx fun w1 hB hb hs => hK _ _ (h w1 hB hb hs)
theorem stIn_one {w : World} {g : Nat} {y : ByteArray} (h : Blk w g 9 (stC y)) (hlt : g < w.heap.size) : StIn w (some ⟨g, 0, none⟩) [y] :=
  Or.inr ⟨g, 0, rfl, hlt, fun j hj => by
    have : j = 0 := by simp at hj; omega
    subst this
    intro i v hv
    have := h.cv i v hv
    simpa using this⟩

/-- A number's bytes, and a name's. -/
def nmW (x : Nm) : List UInt8 := putL x.su.toNat 1 ++ x.id.data.toList
theorem nmW_len (x : Nm) : (nmW x).length = 1 + x.id.size := by simp [nmW, putL_length]
theorem must_int (x : Int) (n : Nat) (w : World) (h0 : 0 ≤ x) (h1 : 1 ≤ n) (h7 : n ≤ 7) (hf : x.toNat < 256 ^ n) :
    Calls Tryd.prog 39 #[.int .i64 x, .int .i64 n] w fun e w' => e = .returned (.string ⟨(putL x.toNat n).toArray⟩) ∧ Below w.heap.size w w' := by
  obtain ⟨k, rfl⟩ := Int.eq_ofNat_of_zero_le h0
  exact must_fits k n w h1 h7 hf

theorem must_i1 (x : Int) (w : World) (h0 : 0 ≤ x) (hf : x < 256) : Calls Tryd.prog 39 #[.int .i64 x, .int .i64 1] w fun e w' => e = .returned (.string ⟨(putL x.toNat 1).toArray⟩) ∧ Below w.heap.size w w' := must_int x 1 w h0 (by decide) (by decide) (by omega)
theorem must_i2 (x : Int) (w : World) (h0 : 0 ≤ x) (hf : x < 65536) : Calls Tryd.prog 39 #[.int .i64 x, .int .i64 2] w fun e w' => e = .returned (.string ⟨(putL x.toNat 2).toArray⟩) ∧ Below w.heap.size w w' := must_int x 2 w h0 (by decide) (by decide) (by omega)
theorem must_i3 (x : Int) (w : World) (h0 : 0 ≤ x) (hf : x < 16777216) : Calls Tryd.prog 39 #[.int .i64 x, .int .i64 3] w fun e w' => e = .returned (.string ⟨(putL x.toNat 3).toArray⟩) ∧ Below w.heap.size w w' := must_int x 3 w h0 (by decide) (by decide) (by omega)
theorem must_i4 (x : Int) (w : World) (h0 : 0 ≤ x) (hf : x < 4294967296) : Calls Tryd.prog 39 #[.int .i64 x, .int .i64 4] w fun e w' => e = .returned (.string ⟨(putL x.toNat 4).toArray⟩) ∧ Below w.heap.size w w' := must_int x 4 w h0 (by decide) (by decide) (by omega)

set_option maxHeartbeats 1600000 in
theorem nameText_any (x : Nm) (w : World) (h0 : 0 ≤ x.su) (h1 : x.su ≤ 255) (hs : x.id.size ≤ 1000) :
    Calls Tryd.prog 90 #[.agg (nmC x)] w fun e w' => e = .returned (.string ⟨(nmW x).toArray⟩) ∧ Below w.heap.size w w' := by
  have HM := Lib.hid (fun W => must_i1 x.su W h0 (by omega))
  have HA := Blk.new w 48 (nmC x)
  have b0 : Below w.heap.size w (w.alloc (.cells (nmC x) 48)) := (Below.refl _ _).alloc (Nat.le_refl _) _
  have p1 : ∀ W, (Op.stringOp .add ⟨(putL x.su.toNat 1).toArray⟩ x.id).run Tryd.prog W = .ok (.string ⟨(nmW x).toArray⟩) W := fun W => run_string_add_lists W (putL x.su.toNat 1) x.id.data.toList (by rw [putL_length]; omega) (by simp; omega)
  generalize putL x.su.toNat 1 = y0 at *
  generalize nmW x = z at *
  go_enter Tryd.func90, Tryd.ntmps90
  go_upto_region 1 with (fail)
  generalize (w.alloc (.cells (nmC x) 48)) = w1 at *
  refine wp_region_noPanic ?_
  refine wp_region_held_drew (S := (fun w' => Blk w' w.heap.size 48 (nmC x))) (by kernel_rfl) ?_ (fun hHeld => ?_)
  · exact HA.drew
  refine wpAnyH_take (i := 0) (v := ?_) rfl (by kernel_rfl) (by kernel_rfl) (by kernel_rfl) (fun _ _ _ h => h) (Or.inl ⟨by rfl, ?_⟩) (by assumption) ?_
  rotate_left
  · (intro w hSw; (try dsimp only at hSw); go_simp; (try with_reducible rfl))
  (try simp only [Act.put, List.getElem_toArray, List.getElem_cons_zero, List.getElem_cons_succ, List.setIfInBounds_toArray, List.set_cons_zero, List.set_cons_succ])
  refine wpAnyH_take (i := 1) (v := .int .i64 x.su) rfl (by kernel_rfl) (by kernel_rfl) (by kernel_rfl) (fun _ _ _ h => h) (Or.inl ⟨by rfl, fun w hSw => by have c := hSw.cv 0 (.int .i64 x.su) rfl; go_simp⟩) (by assumption) ?_
  (try simp only [Act.put, List.getElem_toArray, List.getElem_cons_zero, List.getElem_cons_succ, List.setIfInBounds_toArray, List.set_cons_zero, List.set_cons_succ])
  refine wpAnyH_take (i := 3) (v := ?_) rfl (by kernel_rfl) (by kernel_rfl) (by kernel_rfl) (fun _ _ _ h => h) (Or.inl ⟨by rfl, ?_⟩) (by assumption) ?_
  rotate_left
  · (intro w hSw; (try dsimp only at hSw); go_simp; (try with_reducible rfl))
  (try simp only [Act.put, List.getElem_toArray, List.getElem_cons_zero, List.getElem_cons_succ, List.setIfInBounds_toArray, List.set_cons_zero, List.set_cons_succ])
  refine wpAnyH_take (i := 4) (v := .string x.id) rfl (by kernel_rfl) (by kernel_rfl) (by kernel_rfl) (fun _ _ _ h => h) (Or.inl ⟨by rfl, fun w hSw => by have c := hSw.cv 1 (.string x.id) rfl; go_simp⟩) (by assumption) ?_
  (try simp only [Act.put, List.getElem_toArray, List.getElem_cons_zero, List.getElem_cons_succ, List.setIfInBounds_toArray, List.set_cons_zero, List.set_cons_succ])
  refine wpAnyH_ready (rs := [2]) (by kernel_rfl) (by simp) ?_
  refine AllReadyH.cons rfl (fun K hK => ?_) AllReadyH.nil
  simp only [List.getElem_toArray, List.getElem_cons_zero, List.getElem_cons_succ]
  go_simp
  go_at_call 39; (with_reducible refine (HM.out _).mono ?_); rintro e w2 ⟨rfl, b2⟩; have HA2 := HA.drew.kept b2; have B2 := b0.drew.trans (b2.mono b0.drew.size)
  refine hK.out _ _ ?_ (fun hHeld => ?_)
  · exact HA2
  clear hK K
  (try simp only [Act.put, List.getElem_toArray, List.getElem_cons_zero, List.getElem_cons_succ, List.setIfInBounds_toArray, List.set_cons_zero, List.set_cons_succ])
  refine wpAnyH_take (i := 5) (v := .string ⟨z.toArray⟩) rfl (by kernel_rfl) (by kernel_rfl) (by kernel_rfl) (fun _ _ _ h => h) (Or.inl ⟨by rfl, fun w hSw => by go_simp⟩) (by assumption) ?_
  (try simp only [Act.put, List.getElem_toArray, List.getElem_cons_zero, List.getElem_cons_succ, List.setIfInBounds_toArray, List.set_cons_zero, List.set_cons_succ])
  refine wpAnyH_take (i := 6) (v := ?_) rfl (by kernel_rfl) (by kernel_rfl) (by kernel_rfl) (fun _ _ _ h => h) (Or.inl ⟨by rfl, ?_⟩) (by assumption) ?_
  rotate_left
  · (intro w hSw; (try dsimp only at hSw); go_simp; (try with_reducible rfl))
  (try simp only [Act.put, List.getElem_toArray, List.getElem_cons_zero, List.getElem_cons_succ, List.setIfInBounds_toArray, List.set_cons_zero, List.set_cons_succ])
  refine wpAnyH_done (by kernel_rfl) ?_ _
  refine NoPanic.normal ?_
  go_wp2
  go_ret
  exact ⟨rfl, B2⟩

theorem slice6_st {o : Oper} {a : Act} {w : World} {K : Act → World → Prop} {Q : Exit → Act → World → Prop} {x0 x1 x2 x3 x4 x5 : Operand} (y0 y1 y2 y3 y4 y5 : ByteArray) (ho : o.op = .buildSlice 49 6 #[(0, x0), (1, x1), (2, x2), (3, x3), (4, x4), (5, x5)]) (h0 : a.eval x0 = .string y0) (h1 : a.eval x1 = .string y1) (h2 : a.eval x2 = .string y2) (h3 : a.eval x3 = .string y3) (h4 : a.eval x4 = .string y4) (h5 : a.eval x5 = .string y5)
    (h : ∀ w1, StAt w1 w.heap.size 0 [y0, y1, y2, y3, y4, y5] → Below w.heap.size w w1 → w.heap.size < w1.heap.size → K (a.put o.dst (.slice (some ⟨w.heap.size, 0, none⟩) 6 6)) w1) : Oper.wp Tryd.prog o a w K Q := by
  obtain ⟨i0, hi, hz0, hz1, hz2⟩ := info_parts Tryd.stParts
  refine wp_buildSlice 49 9 6 _ ho #[.string y0, .string y1, .string y2, .string y3, .string y4, .string y5] i0 (.string ⟨#[]⟩) Tryd.underlying49 hi hz0 (by rw [hz1]; decide) (by rw [hz1]; decide) (by rw [hz1]; simp only [List.map_toArray, List.map_cons, List.map_nil, h0, h1, h2, h3, h4, h5]; exact fill_st6 y0 y1 y2 y3 y4 y5) (h _ ?_ ((Below.refl _ _).alloc (Nat.le_refl _) _) (Blk.new w _ _).lt)
  have hB := Blk.new w 9 #[.string y0, .string y1, .string y2, .string y3, .string y4, .string y5]
  generalize w.alloc (.cells #[.string y0, .string y1, .string y2, .string y3, .string y4, .string y5] 9) = w1 at *
  intro j hj i v hv
  have hi0 : i = 0 := by
    rcases Nat.eq_zero_or_pos i with q | q
    · exact q
    · rw [Array.getElem?_eq_none (by show 1 ≤ i; omega)] at hv
      cases hv
  subst hi0
  have hj6 : j = 0 ∨ j = 1 ∨ j = 2 ∨ j = 3 ∨ j = 4 ∨ j = 5 := by
    have : j < 6 := hj
    omega
  rcases hj6 with rfl | rfl | rfl | rfl | rfl | rfl
  · exact hB.cv 0 v hv
  · exact hB.cv 1 v hv
  · exact hB.cv 2 v hv
  · exact hB.cv 3 v hv
  · exact hB.cv 4 v hv
  · exact hB.cv 5 v hv

/-- An address by which one may be managed, as bytes. -/
def mgN (x : Mg) : Nm := ⟨x.as, x.ai⟩
def mgW (x : Mg) : List UInt8 := putL (1 + x.ai.size) 1 ++ (nmW (mgN x) ++ (putL x.fs.toNat 1 ++ (putL x.fi.toNat 4 ++ (putL x.oid.size 1 ++ x.oid.data.toList))))
theorem mgW_len (x : Mg) : (mgW x).length = 8 + x.ai.size + x.oid.size := by
  simp [mgW, nmW, mgN, putL_length]
  omega

set_option maxHeartbeats 3200000 in
theorem manageText_any (x : Mg) (w : World) (h0 : 0 ≤ x.as) (h1 : x.as ≤ 255) (h2 : x.ai.size ≤ 31) (h3 : 0 ≤ x.fs) (h4 : x.fs ≤ 3) (h5 : 0 ≤ x.fi) (h6 : x.fi < 4294967296) (h7 : x.oid.size ≤ 128) :
    Calls Tryd.prog 91 #[.agg (mgC x)] w fun e w' => e = .returned (.string ⟨(mgW x).toArray⟩) ∧ Below w.heap.size w w' := by
  have HN := Lib.hid (fun W => nameText_any (mgN x) W h0 h1 (by show x.ai.size ≤ _; omega))
  have hnl := nmW_len (mgN x)
  have hnl2 : (mgN x).id.size = x.ai.size := rfl
  have HM0 := Lib.hid (fun W => must_i1 ((nmW (mgN x)).length : Int) W (by omega) (by omega))
  have HM1 := Lib.hid (fun W => must_i1 x.fs W h3 (by omega))
  have HM2 := Lib.hid (fun W => must_i4 x.fi W h5 (by omega))
  have HM3 := Lib.hid (fun W => must_i1 (x.oid.size : Int) W (by omega) (by omega))
  have hcat : Hid (catB [⟨(putL ((nmW (mgN x)).length : Int).toNat 1).toArray⟩, ⟨(nmW (mgN x)).toArray⟩, ⟨(putL x.fs.toNat 1).toArray⟩, ⟨(putL x.fi.toNat 4).toArray⟩, ⟨(putL (x.oid.size : Int).toNat 1).toArray⟩, x.oid] = mgW x) := by
    show _ = _
    have e1 : ((nmW (mgN x)).length : Int).toNat = 1 + x.ai.size := by rw [hnl, hnl2]; rfl
    rw [e1]
    show _ = _
    unfold mgW catB
    simp only [List.flatMap_cons, List.flatMap_nil, List.append_nil]
    rfl
  have hml := mgW_len x
  have HA := Blk.new w 114 (mgC x)
  have b0 : Below w.heap.size w (w.alloc (.cells (mgC x) 114)) := (Below.refl _ _).alloc (Nat.le_refl _) _
  clear hnl2
  generalize hmw : mgW x = z at *
  generalize hy0 : putL ((nmW (mgN x)).length : Int).toNat 1 = y0 at *
  generalize hy1 : putL x.fs.toNat 1 = y1 at *
  generalize hy2 : putL x.fi.toNat 4 = y2 at *
  generalize hy3 : putL (x.oid.size : Int).toNat 1 = y3 at *
  generalize hym : nmW (mgN x) = ym at *
  clear hy0 hy1 hy2 hy3 hym hmw hnl
  go_enter Tryd.func91, Tryd.ntmps91
  go_upto_region 1 with (fail)
  generalize (w.alloc (.cells (mgC x) 114)) = w1 at *
  go_wp2_with (refine load_blk (k := 0) 48 (nmC (mgN x)) (by rfl) rfl rfl HA (by kernel_rfl) (by kernel_rfl) rfl ?_)
  refine (HN.out _).mono ?_
  rintro e w2 ⟨rfl, b2⟩
  have HA2 := HA.kept b2
  have B2 := b0.trans (b2.mono b0.size)
  clear HA b0 b2 HN
  go_upto_region 2 with (fail)
  refine wp_region_noPanic ?_
  refine wp_region_held_drew (S := (fun w' => Blk w' w.heap.size 114 (mgC x))) (by kernel_rfl) ?_ (fun hHeld => ?_)
  · exact HA2.drew
  refine wpAnyH_take (i := 0) (v := ?_) rfl (by kernel_rfl) (by kernel_rfl) (by kernel_rfl) (fun _ _ _ h => h) (Or.inl ⟨by rfl, ?_⟩) (by assumption) ?_
  rotate_left
  · (intro w hSw; (try dsimp only at hSw); go_simp; (try with_reducible rfl))
  (try simp only [Act.put, List.getElem_toArray, List.getElem_cons_zero, List.getElem_cons_succ, List.setIfInBounds_toArray, List.set_cons_zero, List.set_cons_succ])
  refine wpAnyH_take (i := 1) (v := ?_) rfl (by kernel_rfl) (by kernel_rfl) (by kernel_rfl) (fun _ _ _ h => h) (Or.inl ⟨by rfl, ?_⟩) (by assumption) ?_
  rotate_left
  · (intro w hSw; (try dsimp only at hSw); go_simp; (try with_reducible rfl))
  (try simp only [Act.put, List.getElem_toArray, List.getElem_cons_zero, List.getElem_cons_succ, List.setIfInBounds_toArray, List.set_cons_zero, List.set_cons_succ])
  refine wpAnyH_take (i := 3) (v := ?_) rfl (by kernel_rfl) (by kernel_rfl) (by kernel_rfl) (fun _ _ _ h => h) (Or.inl ⟨by rfl, ?_⟩) (by assumption) ?_
  rotate_left
  · (intro w hSw; (try dsimp only at hSw); go_simp; (try with_reducible rfl))
  (try simp only [Act.put, List.getElem_toArray, List.getElem_cons_zero, List.getElem_cons_succ, List.setIfInBounds_toArray, List.set_cons_zero, List.set_cons_succ])
  refine wpAnyH_take (i := 4) (v := ?_) rfl (by kernel_rfl) (by kernel_rfl) (by kernel_rfl) (fun _ _ _ h => h) (Or.inl ⟨by rfl, ?_⟩) (by assumption) ?_
  rotate_left
  · (intro w hSw; (try dsimp only at hSw); go_simp; (try with_reducible rfl))
  (try simp only [Act.put, List.getElem_toArray, List.getElem_cons_zero, List.getElem_cons_succ, List.setIfInBounds_toArray, List.set_cons_zero, List.set_cons_succ])
  refine wpAnyH_take (i := 5) (v := .int .i64 x.fs) rfl (by kernel_rfl) (by kernel_rfl) (by kernel_rfl) (fun _ _ _ h => h) (Or.inl ⟨by rfl, fun w hSw => by have c := hSw.cv 2 (.int .i64 x.fs) rfl; go_simp⟩) (by assumption) ?_
  (try simp only [Act.put, List.getElem_toArray, List.getElem_cons_zero, List.getElem_cons_succ, List.setIfInBounds_toArray, List.set_cons_zero, List.set_cons_succ])
  refine wpAnyH_take (i := 7) (v := ?_) rfl (by kernel_rfl) (by kernel_rfl) (by kernel_rfl) (fun _ _ _ h => h) (Or.inl ⟨by rfl, ?_⟩) (by assumption) ?_
  rotate_left
  · (intro w hSw; (try dsimp only at hSw); go_simp; (try with_reducible rfl))
  (try simp only [Act.put, List.getElem_toArray, List.getElem_cons_zero, List.getElem_cons_succ, List.setIfInBounds_toArray, List.set_cons_zero, List.set_cons_succ])
  refine wpAnyH_take (i := 8) (v := .int .i64 x.fi) rfl (by kernel_rfl) (by kernel_rfl) (by kernel_rfl) (fun _ _ _ h => h) (Or.inl ⟨by rfl, fun w hSw => by have c := hSw.cv 3 (.int .i64 x.fi) rfl; go_simp⟩) (by assumption) ?_
  (try simp only [Act.put, List.getElem_toArray, List.getElem_cons_zero, List.getElem_cons_succ, List.setIfInBounds_toArray, List.set_cons_zero, List.set_cons_succ])
  refine wpAnyH_take (i := 10) (v := ?_) rfl (by kernel_rfl) (by kernel_rfl) (by kernel_rfl) (fun _ _ _ h => h) (Or.inl ⟨by rfl, ?_⟩) (by assumption) ?_
  rotate_left
  · (intro w hSw; (try dsimp only at hSw); go_simp; (try with_reducible rfl))
  (try simp only [Act.put, List.getElem_toArray, List.getElem_cons_zero, List.getElem_cons_succ, List.setIfInBounds_toArray, List.set_cons_zero, List.set_cons_succ])
  refine wpAnyH_take (i := 11) (v := .string x.oid) rfl (by kernel_rfl) (by kernel_rfl) (by kernel_rfl) (fun _ _ _ h => h) (Or.inl ⟨by rfl, fun w hSw => by have c := hSw.cv 4 (.string x.oid) rfl; go_simp⟩) (by assumption) ?_
  (try simp only [Act.put, List.getElem_toArray, List.getElem_cons_zero, List.getElem_cons_succ, List.setIfInBounds_toArray, List.set_cons_zero, List.set_cons_succ])
  refine wpAnyH_take (i := 12) (v := ?_) rfl (by kernel_rfl) (by kernel_rfl) (by kernel_rfl) (fun _ _ _ h => h) (Or.inl ⟨by rfl, ?_⟩) (by assumption) ?_
  rotate_left
  · (intro w hSw; (try dsimp only at hSw); go_simp; (try with_reducible rfl))
  (try simp only [Act.put, List.getElem_toArray, List.getElem_cons_zero, List.getElem_cons_succ, List.setIfInBounds_toArray, List.set_cons_zero, List.set_cons_succ])
  refine wpAnyH_take (i := 14) (v := ?_) rfl (by kernel_rfl) (by kernel_rfl) (by kernel_rfl) (fun _ _ _ h => h) (Or.inl ⟨by rfl, ?_⟩) (by assumption) ?_
  rotate_left
  · (intro w hSw; (try dsimp only at hSw); go_simp; (try with_reducible rfl))
  (try simp only [Act.put, List.getElem_toArray, List.getElem_cons_zero, List.getElem_cons_succ, List.setIfInBounds_toArray, List.set_cons_zero, List.set_cons_succ])
  refine wpAnyH_take (i := 15) (v := .string x.oid) rfl (by kernel_rfl) (by kernel_rfl) (by kernel_rfl) (fun _ _ _ h => h) (Or.inl ⟨by rfl, fun w hSw => by have c := hSw.cv 4 (.string x.oid) rfl; go_simp⟩) (by assumption) ?_
  (try simp only [Act.put, List.getElem_toArray, List.getElem_cons_zero, List.getElem_cons_succ, List.setIfInBounds_toArray, List.set_cons_zero, List.set_cons_succ])
  refine wpAnyH_ready (rs := [2]) (by kernel_rfl) (by simp) ?_
  refine AllReadyH.cons rfl (fun K hK => ?_) AllReadyH.nil
  simp only [List.getElem_toArray, List.getElem_cons_zero, List.getElem_cons_succ]
  go_simp
  go_at_call 39; (with_reducible refine (HM0.out _).mono ?_); rintro e w3 ⟨rfl, b3⟩; have HA3 := HA2.drew.kept b3; have B3 := B2.drew.trans (b3.mono B2.drew.size)
  refine hK.out _ _ ?_ (fun hHeld => ?_)
  · exact HA3
  clear hK K
  (try simp only [Act.put, List.getElem_toArray, List.getElem_cons_zero, List.getElem_cons_succ, List.setIfInBounds_toArray, List.set_cons_zero, List.set_cons_succ])
  refine wpAnyH_ready (rs := [6]) (by kernel_rfl) (by simp) ?_
  refine AllReadyH.cons rfl (fun K hK => ?_) AllReadyH.nil
  simp only [List.getElem_toArray, List.getElem_cons_zero, List.getElem_cons_succ]
  go_simp
  go_at_call 39; (with_reducible refine (HM1.out _).mono ?_); rintro e w4 ⟨rfl, b4⟩; have HA4 := HA3.kept b4; have B4 := B3.trans (b4.mono B3.size)
  refine hK.out _ _ ?_ (fun hHeld => ?_)
  · exact HA4
  clear hK K
  (try simp only [Act.put, List.getElem_toArray, List.getElem_cons_zero, List.getElem_cons_succ, List.setIfInBounds_toArray, List.set_cons_zero, List.set_cons_succ])
  refine wpAnyH_ready (rs := [9]) (by kernel_rfl) (by simp) ?_
  refine AllReadyH.cons rfl (fun K hK => ?_) AllReadyH.nil
  simp only [List.getElem_toArray, List.getElem_cons_zero, List.getElem_cons_succ]
  go_simp
  go_at_call 39; (with_reducible refine (HM2.out _).mono ?_); rintro e w5 ⟨rfl, b5⟩; have HA5 := HA4.kept b5; have B5 := B4.trans (b5.mono B4.size)
  refine hK.out _ _ ?_ (fun hHeld => ?_)
  · exact HA5
  clear hK K
  (try simp only [Act.put, List.getElem_toArray, List.getElem_cons_zero, List.getElem_cons_succ, List.setIfInBounds_toArray, List.set_cons_zero, List.set_cons_succ])
  refine wpAnyH_ready (rs := [13]) (by kernel_rfl) (by simp) ?_
  refine AllReadyH.cons rfl (fun K hK => ?_) AllReadyH.nil
  simp only [List.getElem_toArray, List.getElem_cons_zero, List.getElem_cons_succ]
  go_simp
  go_at_call 39; (with_reducible refine (HM3.out _).mono ?_); rintro e w6 ⟨rfl, b6⟩; have HA6 := HA5.kept b6; have B6 := B5.trans (b6.mono B5.size)
  refine hK.out _ _ ?_ (fun hHeld => ?_)
  · exact HA6
  clear hK K
  (try simp only [Act.put, List.getElem_toArray, List.getElem_cons_zero, List.getElem_cons_succ, List.setIfInBounds_toArray, List.set_cons_zero, List.set_cons_succ])
  refine wpAnyH_ready (rs := [16]) (by kernel_rfl) (by simp) ?_
  refine AllReadyH.cons rfl (fun K hK => ?_) AllReadyH.nil
  simp only [List.getElem_toArray, List.getElem_cons_zero, List.getElem_cons_succ]
  rw [if_pos (by rfl)]
  refine slice6_st ⟨y0.toArray⟩ ⟨ym.toArray⟩ ⟨y1.toArray⟩ ⟨y2.toArray⟩ ⟨y3.toArray⟩ x.oid rfl rfl rfl rfl rfl rfl rfl (fun w7 hat7 b7 hlt7 => ?_)
  have HA7 := HA6.kept b7
  have B7 := B6.trans (b7.mono B6.size)
  have hp7 : 0 < (catB [⟨y0.toArray⟩, ⟨ym.toArray⟩, ⟨y1.toArray⟩, ⟨y2.toArray⟩, ⟨y3.toArray⟩, x.oid]).length := by rw [hcat.out]; omega
  have hs7 : (catB [⟨y0.toArray⟩, ⟨ym.toArray⟩, ⟨y1.toArray⟩, ⟨y2.toArray⟩, ⟨y3.toArray⟩, x.oid]).length ≤ 1000000 := by rw [hcat.out]; omega
  refine hK.out _ _ ?_ (fun hHeld => ?_)
  · exact HA7
  clear hK K
  (try simp only [Act.put, List.getElem_toArray, List.getElem_cons_zero, List.getElem_cons_succ, List.setIfInBounds_toArray, List.set_cons_zero, List.set_cons_succ])
  refine wpAnyH_ready (rs := [17]) (by kernel_rfl) (by simp) ?_
  refine AllReadyH.cons rfl (fun K hK => ?_) AllReadyH.nil
  simp only [List.getElem_toArray, List.getElem_cons_zero, List.getElem_cons_succ]
  go_simp
  refine (join6 w6.heap.size _ rfl w7 hlt7 hat7 hp7 hs7).mono ?_
  rintro e w8 ⟨rfl, b8⟩
  have HA8 := HA7.kept b8
  have B8 := B7.trans (b8.mono B7.size)
  rw [hcat.out]
  refine hK.out _ _ ?_ (fun hHeld => ?_)
  · exact HA8
  clear hK K
  (try simp only [Act.put, List.getElem_toArray, List.getElem_cons_zero, List.getElem_cons_succ, List.setIfInBounds_toArray, List.set_cons_zero, List.set_cons_succ])
  refine wpAnyH_take (i := 18) (v := ?_) rfl (by kernel_rfl) (by kernel_rfl) (by kernel_rfl) (fun _ _ _ h => h) (Or.inl ⟨by rfl, ?_⟩) (by assumption) ?_
  rotate_left
  · (intro w hSw; (try dsimp only at hSw); go_simp; (try with_reducible rfl))
  (try simp only [Act.put, List.getElem_toArray, List.getElem_cons_zero, List.getElem_cons_succ, List.setIfInBounds_toArray, List.set_cons_zero, List.set_cons_succ])
  refine wpAnyH_done (by kernel_rfl) ?_ _
  refine NoPanic.normal ?_
  go_wp2
  go_ret
  exact ⟨rfl, B8⟩

end Go.Proofs.YticjmjoiggnblaaDoor
