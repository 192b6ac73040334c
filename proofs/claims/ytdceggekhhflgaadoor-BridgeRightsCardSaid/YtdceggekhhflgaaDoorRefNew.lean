/- The reference's NewBridge. -/
import Derived.Test.YtdceggekhhflgaaDoorRefPs
import Derived.Test.YtdceggekhhflgaaDoorCaught
import Derived.Test.YtdceggekhhflgaaDoorStOp
import Derived.Test.YtdceggekhhflgaaDoorPsS
import Derived.Test.YtdceggekhhflgaaDoorBrV
import Derived.Deep.AppendSrc
import Derived.Lib.AppendZeros
namespace Go.Proofs.YtdceggekhhflgaaDoor
open Go.RowKit
attribute [local go_sem ↓] Go.wp_at_zero Go.wp_at_succ
set_option linter.unusedSimpArgs false
set_option linter.unusedVariables false
set_option maxRecDepth 100000

set_option maxHeartbeats 1600000 in
/-- A list of ports behind none. -/
theorem many_ps {o : Oper} {a : Act} {w : World} {K : Act → World → Prop} {Q : Exit → Act → World → Prop} {s x : Operand} {base : Nat} {l2 : List PsH} {a2 : Option Addr} {c2 : Nat}
    (ho : o.op = .call { callee := .builtin .append, args := #[s, x], argTypes := #[22, 22] }) (hs : a.eval s = .slice none 0 0) (hx : a.eval x = .slice a2 l2.length c2)
    (hI : PsIn w a2 l2) (hlen : l2.length ≤ 100000) (hbase : base ≤ w.heap.size)
    (h : ∀ v' w', OwnPsH w' base v' l2 → Below w.heap.size w w' → K (a.put o.dst v') w') : Oper.wp Tryd.prog o a w K Q := by
  obtain ⟨i0, hi, hz0, hz1, hz2⟩ := info_parts Tryd.psParts
  by_cases hl2 : l2 = []
  · subst hl2
    have hr : (Builtin.append_ #[22, 22] o.type #[.slice none 0 0, .slice a2 0 c2]).run Tryd.prog w = .ok (.slice none 0 0) w := by
      have hsrc : Src Tryd.prog i0.size 22 (.slice a2 0 c2) 0 [] w := by
        cases a2 with
        | none => exact Src.ofNil w Tryd.underlying22 c2
        | some ad => exact Src.ofSlice w Tryd.underlying22 ad 0 c2 [] (by simp) (fun j u hj => by simp at hj) (fun u hu => by cases hu)
      have hcl := hsrc.cells
      simp [Builtin.append_, run_underlying Tryd.underlying22, sizeOf, typeInfo, hi, Builtin.lenOf]
      cases a2 <;> simp [Builtin.firstCells] at hcl ⊢
      simp [hcl]
    exact Lib.wp_append_run w s x _ _ ho _ _ hs hx _ _ hr (h _ _ (OwnPsH.nil _ _) (Below.refl _ _))
  · rcases hI with hI | ⟨b, lo, rfl, hb, hat⟩
    · exact absurd hI hl2
    have hpos : 0 < l2.length := List.length_pos_iff.2 hl2
    refine wp_append_lies w s x _ ho base 25 i0 (.agg (psC zPsH)) 4 64 Tryd.underlying22 hi hz0 hz1 hz2 rfl (by decide) (.slice none 0 0) 0 [] hs (World.ownsRow_nil w base _ 4) ⟨b, lo, none⟩ l2.length c2 (psR l2) hx (psR_len l2) (psAt_news hat) (psR_cells l2) hpos (by unfold maxLen; omega) (by omega) hbase _ rfl ?_
    intro g cap w' hown hgrow hat2 hlt
    rw [List.nil_append, Nat.zero_add] at hown
    exact h _ _ (Or.inr ⟨hl2, g, cap, by rw [Nat.zero_add], by rw [Nat.zero_add]; exact hown⟩) ⟨hgrow.os, hgrow.tape, hgrow.output, hgrow.size, fun k hk => hgrow.block k hk (by simp [Value.ownBlock])⟩

theorem manyL_ps {ops : Array Oper} {rest : List Oper} {o : Oper} {a : Act} {w : World} {Q : Exit → Act → World → Prop} {s x : Operand} {base : Nat} {l2 : List PsH} {a2 : Option Addr} {c2 : Nat} (hg : o.guard = none)
    (ho : o.op = .call { callee := .builtin .append, args := #[s, x], argTypes := #[22, 22] }) (hs : a.eval s = .slice none 0 0) (hx : a.eval x = .slice a2 l2.length c2)
    (hI : PsIn w a2 l2) (hlen : l2.length ≤ 100000) (hbase : base ≤ w.heap.size)
    (h : ∀ v' w', OwnPsH w' base v' l2 → Below w.heap.size w w' → wpList Tryd.prog ops Q rest (a.put o.dst v') w') : wpList Tryd.prog ops Q (o :: rest) a w :=
  wpList_plain hg fun _ hK => many_ps ho hs hx hI hlen hbase fun v' w' h1 h2 => hK _ _ (h v' w' h1 h2)

theorem results_tmp_blkN {P : Program} {fn : Func} {tmps : Array Value} {w : World} {a t u B : Nat} {T : TypeId} {X : Array Value} (h : fn.results = #[.tmp u, .cell a t]) (ha : tmps.getD a undef = .pointer (some ⟨B, 0, none⟩)) (hB : Blk w B T X)
    (hu : (match P.underlying t with | some (.struct _) | some (.array _ _) => true | _ => false) = true) (hn : (P.info? t).map (·.size) = some X.size) : (results fn tmps).run P w = .ok (.tuple #[tmps.getD u undef, .agg X]) w := by
  have h1 := run_load_blk (P := P) w B 0 T t X X hB hu hn (by rw [List.drop_zero]; exact List.take_of_length_le (by simp))
  rw [Array.getD_eq_getD_getElem?] at ha
  simp only [results, h]
  simp [ha, asAddr, h1]

theorem rbare_any (x : Int) (w : World) : Calls Tryd.prog 19 #[.int .i64 x] w fun e w' => e = .returned (.agg (ftC x (-1))) ∧ Below w.heap.size w w' := by
  have HZ := Blk.new w 30 (ftC 0 0)
  have hb0 : Below w.heap.size w (w.alloc (.cells (ftC 0 0) 30)) := (Below.refl _ _).alloc (Nat.le_refl _) _
  go_enter Tryd.func19, Tryd.ntmps19
  go_wp2_with (first | (refine alloc_blk 30 (ftC 0 0) (by rfl) rfl Tryd.ftZero ?_) | (refine build_blk (t := 30) (ftC x (-1)) (by rfl) rfl (by kernel_rfl) ?_) | (refine store_blk (k := 0) 30 (.agg (ftC x (-1))) (ftC x (-1)) (by rfl) rfl rfl rfl HZ (by kernel_rfl) (by exact Nat.le_refl 2) rfl rfl (fun w2 H2 b2 g2 => ?_)))
  exact bodyPost_ret (results_blk rfl rfl H2 (by kernel_rfl) (by kernel_rfl)) rfl ⟨rfl, hb0.trans b2⟩

/-- What NewBridge answers. -/
def RNewPost (l : List PsH) (age : Int) (w : World) (e : Ending) (w' : World) : Prop :=
  Below w.heap.size w w' ∧
  ((∃ i, ∃ hi : i < l.length, okPs l[i].x = false ∧ (∀ x ∈ l.take i, okPs x.x = true) ∧ e = .returned (.tuple #[.pointer none, .agg (ftC 1 (i : Nat))]))
  ∨ ((∀ x ∈ l, okPs x.x = true) ∧ (age < 1 ∨ 300 < age) ∧ e = .returned (.tuple #[.pointer none, .agg (ftC 2 (-1))]))
  ∨ ((∀ x ∈ l, okPs x.x = true) ∧ (1 ≤ age ∧ age ≤ 300) ∧ ∃ q t v, e = .returned (.tuple #[.pointer (some ⟨q, 0, none⟩), .agg (ftC 0 (-1))]) ∧ w.heap.size ≤ q ∧ w.heap.size ≤ t ∧ OwnPsH w' w.heap.size v l ∧ Blk w' t 50 #[.int .i64 age, .int .i64 0, .slice none 0 0] ∧ Blk w' q 52 #[v, .pointer (some ⟨t, 0, none⟩)]))

set_option maxHeartbeats 1600000 in
theorem rnew_long (a : Option Addr) (c : Nat) (l : List PsH) (age : Int) (w : World) (h : 8 < l.length) (hl : l.length ≤ maxLen) :
    Calls Tryd.prog 6 #[.slice a l.length c, .int .i64 age] w fun e w' => e = .returned (.tuple #[.pointer none, .agg (ftC 4 (-1))]) ∧ Below w.heap.size w w' := by
  have d1 : decide ((8 : Int) < (l.length : Int)) = true := decide_eq_true (by omega)
  have HZ := Blk.new w 30 (ftC 0 0)
  have B0 : Below w.heap.size w (w.alloc (.cells (ftC 0 0) 30)) := (Below.refl _ _).alloc (Nat.le_refl _) _
  go_enter Tryd.func6, Tryd.ntmps6
  go_upto_region 1 with (first
    | (refine alloc_blk 30 (ftC 0 0) (by rfl) rfl Tryd.ftZero ?_))
  generalize w.alloc (.cells (ftC 0 0) 30) = w1 at *
  go_wp2_with (first
    | (go_at_call 19; refine (rbare_any 4 _).mono ?_; rintro e w2 ⟨rfl, k2⟩; have HZ2 := HZ.kept k2)
    | (refine store_blk (B := w.heap.size) (k := 0) 30 (.agg (ftC 4 (-1))) (ftC 4 (-1)) (by rfl) rfl rfl rfl HZ2 (by kernel_rfl) (show (2 : Nat) ≤ 2 from Nat.le_refl 2) rfl rfl ?_; intro w3 HZ3 b3 g3))
  exact bodyPost_ret (results_tmp_blkN rfl rfl HZ3 (by kernel_rfl) (by kernel_rfl)) rfl ⟨rfl, (B0.trans (k2.mono B0.size)).trans b3⟩

set_option maxHeartbeats 6400000 in
theorem rnew_any (a : Option Addr) (c : Nat) (l : List PsH) (age : Int) (w : World) (h : PsIn w a l) (hok : ∀ x ∈ l, PsOk w x) (hl : l.length ≤ 8) :
    Calls Tryd.prog 6 #[.slice a l.length c, .int .i64 age] w fun e w' => RNewPost l age w e w' := by
  have d1 : decide ((8 : Int) < (l.length : Int)) = false := decide_eq_false (by omega)
  have HL := Lib.hid hl
  have HOK := Lib.hid hok
  have HZ := Blk.new w 30 (ftC 0 0)
  have B0 : Below w.heap.size w (w.alloc (.cells (ftC 0 0) 30)) := (Below.refl _ _).alloc (Nat.le_refl _) _
  clear hok hl
  go_enter Tryd.func6, Tryd.ntmps6
  go_upto_region 1 with (first
    | (refine alloc_blk 30 (ftC 0 0) (by rfl) rfl Tryd.ftZero ?_))
  generalize w.alloc (.cells (ftC 0 0) 30) = w1 at *
  generalize hF : w.heap.size = F at *
  go_wp2_with fail
  go_loopw [14] (fun s14 wr => ∃ k : Nat, k ≤ l.length ∧ s14 = .int .i64 k ∧ (∀ x ∈ l.take k, okPs x.x = true) ∧ Below F w wr ∧ Blk wr F 30 (ftC 0 0)) (fun i _ => l.length - (intOf i).toNat)
  case atStart => exact ⟨0, by omega, rfl, by simp, B0, HZ⟩
  case round =>
    obtain ⟨k, hk, rfl, hall, Bk, HB⟩ := hrel
    clear B0 HZ
    by_cases hlt : k < l.length
    · have hI := h.below (by rw [hF]; exact Bk)
      obtain ⟨b, lo, rfl, hbl, hat⟩ := hI.at hlt
      have q1 : (k : Int) < (l.length : Int) := by omega
      have q2 : decide ((k : Int) < (l.length : Int)) = true := decide_eq_true q1
      have q3 : (0 : Int) ≤ (k : Int) := by omega
      have q4 : IntKind.i64.wrap ((k : Int) + 1) = (k : Int) + 1 := by have := HL.out; rw [IntKind.wrap_i64] <;> omega
      have HK := hat k hlt
      have hkx := (HOK.out _ (List.getElem_mem hlt)).below (show Below w.heap.size w wr by rw [hF]; exact Bk)
      have hsn := Lib.hid (show l.take (k + 1) = l.take k ++ [l[k]] by rw [List.take_add_one, List.getElem?_eq_getElem hlt]; rfl)
      have HBAD : Hid (okPs l[k].x = false → ∀ w', Below F w w' → RNewPost l age w (.returned (.tuple #[.pointer none, .agg (ftC 1 (k : Nat))])) w') := fun q0 w' hb => ⟨by rw [hF]; exact hb, Or.inl ⟨k, hlt, q0, hall, rfl⟩⟩
      generalize l[k] = x at *
      have HQ := Blk.new wr 25 (psC zPsH)
      have bQ : Below wr.heap.size wr (wr.alloc (.cells (psC zPsH) 25)) := (Below.refl _ _).alloc (Nat.le_refl _) _
      clear hat hI h hbl
      go_upto_region 6 with (first
        | (refine load_cells (B := b) (k := lo + k * 4) 25 (psC x) (by rfl) rfl rfl HK (by kernel_rfl) (by kernel_rfl) ?_)
        | (refine alloc_blk 25 (psC zPsH) (by rfl) rfl Tryd.psZero ?_)
        | (refine store_blk (B := wr.heap.size) (k := 0) 25 (.agg (psC x)) (psC x) (by rfl) rfl rfl rfl HQ (by kernel_rfl) (show (4 : Nat) ≤ 4 from Nat.le_refl 4) (by rfl) (st_whole' _ _ rfl) ?_; intro w0 HQ0 b0 g0))
      have k0 := bQ.trans b0
      have hk0 := hkx.below k0
      have HB0 := HB.kept k0
      have sB := Bk.size
      have Bk0 := Bk.trans (k0.mono (Nat.le_of_lt HB.lt))
      have hF0 : F ≤ w0.heap.size := Nat.le_of_lt HB0.lt
      clear bQ b0 g0 HK hkx HQ HB k0
      have HRI := Lib.hid (psRef_any x w0 hk0)
      generalize wr.heap.size = Q at *
      cases hb : okPs x.x with
      | false =>
        rw [hb] at HRI
        have HBD := Lib.hid (HBAD.out hb)
        clear HBAD hb
        go_upto_region 7 with (first
          | (refine load_blk 25 (psC x) (by rfl) rfl rfl HQ0 (by kernel_rfl) (by kernel_rfl) (by rfl) ?_)
          | (go_at_call 5; refine HRI.out.mono ?_; rintro e w1 ⟨rfl, k1⟩))
        have HB1 := HB0.kept k1
        have Bk1 := Bk0.trans (k1.mono hF0)
        go_wp2_with (first
          | (refine build_blk (t := 30) (ftC 1 (k : Nat)) (by rfl) rfl (by kernel_rfl) ?_)
          | (refine store_blk (B := F) (k := 0) 30 (.agg (ftC 1 (k : Nat))) (ftC 1 (k : Nat)) (by rfl) rfl rfl rfl HB1 (by kernel_rfl) (show (2 : Nat) ≤ 2 from Nat.le_refl 2) rfl rfl ?_; intro w3 HZ3 b3 g3))
        exact bodyPost_ret (results_tmp_blkN rfl rfl HZ3 (by kernel_rfl) (by kernel_rfl)) rfl (HBD.out _ (Bk1.trans b3))
      | true =>
        rw [hb] at HRI
        have HTR := Lib.hid hb
        clear HBAD hb
        go_wp2_with (first
          | (refine load_blk 25 (psC x) (by rfl) rfl rfl HQ0 (by kernel_rfl) (by kernel_rfl) (by rfl) ?_)
          | (go_at_call 5; refine HRI.out.mono ?_; rintro e w1 ⟨rfl, k1⟩))
        go_roundw
        case rel => exact ⟨k + 1, by omega, by go_num, by
          rw [hsn.out]
          intro y hy
          rcases List.mem_append.1 hy with q | q
          · exact hall y q
          · rw [List.mem_singleton.1 q]; exact HTR.out, Bk0.trans (k1.mono hF0), HB0.kept k1⟩
        case measure => simp [intOf]; omega
    · obtain rfl : k = l.length := by omega
      have q2 : decide ((l.length : Int) < (l.length : Int)) = false := decide_eq_false (by omega)
      rw [List.take_length] at hall
      have hF0 : F ≤ wr.heap.size := Nat.le_of_lt HB.lt
      have hI := h.below (by rw [hF]; exact Bk)
      by_cases hage : 1 ≤ age ∧ age ≤ 300
      · have HW := Lib.hid (within_yes age 1 300 wr hage.1 hage.2)
        have HFIN : Hid (∀ q t v w', F ≤ q → F ≤ t → OwnPsH w' F v l → Blk w' t 50 #[.int .i64 age, .int .i64 0, .slice none 0 0] → Blk w' q 52 #[v, .pointer (some ⟨t, 0, none⟩)] → Below F w w' → RNewPost l age w (.returned (.tuple #[.pointer (some ⟨q, 0, none⟩), .agg (ftC 0 (-1))])) w') := fun q t v w' h1 h2 h3 h4 h5 h6 => by
          refine ⟨by rw [hF]; exact h6, Or.inr (Or.inr ⟨hall, hage, q, t, v, rfl, ?_⟩)⟩
          rw [hF]
          exact ⟨h1, h2, h3, h4, h5⟩
        clear hall hage h
        go_upto_region 11 with (go_at_call 17; refine HW.out.mono ?_; rintro e w' ⟨rfl, rfl⟩)
        clear HW
        go_wp2_with (first
          | (refine manyL_ps (l2 := l) (base := F) rfl rfl rfl rfl hI (Nat.le_trans HL.out (by decide)) hF0 ?_; intro v2 w2 HO2 k2; have HB2 := HB.kept k2; have hF2 := Nat.le_of_lt HB2.lt; have B2 := Bk.trans (k2.mono hF0); obtain ⟨a2, c2, rfl, -⟩ := HO2.inL)
          | (refine box_blk 50 #[.int .i64 age, .int .i64 0, .slice none 0 0] (by rfl) rfl rfl ?_)
          | (refine box_blk 52 #[.slice a2 l.length c2, .pointer (some ⟨w2.heap.size, 0, none⟩)] (by rfl) rfl rfl ?_; have HT3 := (Blk.new w2 50 #[.int .i64 age, .int .i64 0, .slice none 0 0]).alloc (.cells #[.slice a2 l.length c2, .pointer (some ⟨w2.heap.size, 0, none⟩)] 52); have HB3 := Blk.new (w2.alloc (.cells #[.int .i64 age, .int .i64 0, .slice none 0 0] 50)) 52 #[.slice a2 l.length c2, .pointer (some ⟨w2.heap.size, 0, none⟩)]; have k3 := ((Below.refl w2.heap.size w2).alloc (Nat.le_refl _) (.cells #[.int .i64 age, .int .i64 0, .slice none 0 0] 50)).alloc (Nat.le_of_lt (Blk.new w2 50 #[.int .i64 age, .int .i64 0, .slice none 0 0]).lt) (.cells #[.slice a2 l.length c2, .pointer (some ⟨w2.heap.size, 0, none⟩)] 52); have HO3 := HO2.kept k3; have HZ3 := HB2.kept k3; have B3 := B2.trans (k3.mono hF2))
          | (go_at_call 20; refine (good_any _).mono ?_; rintro e w4 ⟨rfl, k4⟩; have HZ4 := HZ3.kept k4)
          | (refine store_blk (B := F) (k := 0) 30 (.agg (ftC 0 (-1))) (ftC 0 (-1)) (by rfl) rfl rfl rfl HZ4 (by kernel_rfl) (show (2 : Nat) ≤ 2 from Nat.le_refl 2) rfl rfl ?_; intro w5 HZ5 b5 g5))
        have e1 : (w2.alloc (.cells #[.int .i64 age, .int .i64 0, .slice none 0 0] 50)).heap.size = w2.heap.size + 1 := by simp
        rw [e1] at HB3
        have hF2' := HB2.lt
        have HO4 := HO3.kept k4
        have HT4 := HT3.kept k4
        have HB4 := HB3.kept k4
        have HO5 := HO4.other HZ4 (by decide) g5
        have HT5 := HT4.grown g5 (by intro e; cases e; omega)
        have HB5 := HB4.grown g5 (by intro e; cases e; omega)
        have B5 := (B3.trans (k4.mono (Nat.le_of_lt HZ3.lt))).trans b5
        exact bodyPost_ret (results_tmp_blkN rfl rfl HZ5 (by kernel_rfl) (by kernel_rfl)) rfl (HFIN.out _ _ _ _ (by omega) (by omega) HO5 HT5 HB5 B5)
      · have HW := Lib.hid (within_no age 1 300 wr (by omega))
        have HFIN : Hid (∀ w', Below F w w' → RNewPost l age w (.returned (.tuple #[.pointer none, .agg (ftC 2 (-1))])) w') := fun w' hb => ⟨by rw [hF]; exact hb, Or.inr (Or.inl ⟨hall, by omega, rfl⟩)⟩
        clear hall hage h
        go_wp2_with (first
          | (go_at_call 17; refine HW.out.mono ?_; rintro e w' ⟨rfl, rfl⟩)
          | (go_at_call 19; refine (rbare_any 2 _).mono ?_; rintro e w2 ⟨rfl, k2⟩; have HZ2 := HB.kept k2)
          | (refine store_blk (B := F) (k := 0) 30 (.agg (ftC 2 (-1))) (ftC 2 (-1)) (by rfl) rfl rfl rfl HZ2 (by kernel_rfl) (show (2 : Nat) ≤ 2 from Nat.le_refl 2) rfl rfl ?_; intro w3 HZ3 b3 g3))
        exact bodyPost_ret (results_tmp_blkN rfl rfl HZ3 (by kernel_rfl) (by kernel_rfl)) rfl (HFIN.out _ ((Bk.trans (k2.mono hF0)).trans b3))

end Go.Proofs.YtdceggekhhflgaaDoor
