/- The reference's SpanLeast at every list that may be. -/
import Derived.Test.YtlfeholphngilaaDoorRefInst
import Derived.Test.YtlfeholphngilaaDoorSpOwn
import Derived.Test.YtlfeholphngilaaDoorTabM
import Derived.Great.BuildSlice
namespace Go.Proofs.YtlfeholphngilaaDoor
open Go.RowKit
attribute [local go_sem ↓] Go.wp_at_zero Go.wp_at_succ
set_option linter.unusedSimpArgs false
set_option linter.unusedVariables false
set_option maxRecDepth 100000

theorem fill_sp2 (v : Sp) : Instr.fill (fun i => some (i * 3, 3)) ((Array.range (1 * 3)).map ((Value.agg (spC zSp)).cells[· % (Value.agg (spC zSp)).cells.size]!)) [(0, .agg (spC v))] = some (spC v) := by kernel_rfl
theorem runV_none (gg : Int → Int) (k : Nat) (out : List Sp) : runV gg 0 k out = out := rfl
theorem runV_len (gg : Int → Int) : ∀ m : Nat, (runV gg m 0 []).length ≤ m
  | 0 => Nat.le_refl _
  | m + 1 => by
    have ih := runV_len gg m
    rw [runV_snoc]
    have h := ext_len (runV gg m 0 []) ⟨((0 + m + 1 : Nat) : Int), ((0 + m + 1 : Nat) : Int), gg ((0 + m + 1 : Nat) : Int)⟩
    omega

set_option maxHeartbeats 25600000 in
theorem refLeast_any (a : Option Addr) (c : Nat) (l : List Sp) (w : World) (h : SpIn w a l) (hlen : l.length ≤ 1000000) (hr : rightL l = true) :
    Calls Tryd.prog 23 #[.slice a l.length c] w fun e w' => (∃ v, e = .returned v ∧ OwnV w' w.heap.size v (leastL l)) ∧ Below w.heap.size w w' := by
  have HEND := Lib.hid (refLeast_eq l hr)
  obtain ⟨i0, hi, hz0, hz1, hz2⟩ := info_parts Tryd.spParts
  clear hr
  go_enter Tryd.func23, Tryd.ntmps23
  go_wp2_with fail
  go_loopw [3, 4, 5, 6] (fun v i _ _ wr => ∃ m : Nat, m ≤ 4094 ∧ i = .int .i64 ((m + 1 : Nat) : Int) ∧ OwnV wr w.heap.size v (runV (instL l) m 0 []) ∧ Below w.heap.size w wr) (fun _ i _ _ _ => 4096 - (intOf i).toNat)
  case atStart => exact ⟨0, by omega, rfl, Or.inl ⟨rfl, rfl⟩, Below.refl _ _⟩
  case round =>
    obtain ⟨m, hm, rfl, HO, hb⟩ := hrel
    by_cases hlt : m < 4094
    · skip
      obtain ⟨V, hV⟩ : ∃ V, V = m + 1 := ⟨_, rfl⟩
      have hVs : 0 + m + 1 = V := by omega
      have hOl := runV_len (instL l) m
      have hwV : IntKind.i64.wrap ((V : Int) - 1) = (V : Int) - 1 := by rw [IntKind.wrap_i64] <;> omega
      have hwW : IntKind.i64.wrap ((V : Int) + 1) = (V : Int) + 1 := by rw [IntKind.wrap_i64] <;> omega
      have hV4 : decide ((V : Int) ≤ 4094) = true := decide_eq_true (by omega)
      have hV5 : (V : Int) ≤ 4094 := by omega
      rw [← hV]
      have HI := Lib.hid (refInst_any a c l (V : Int) wr (h.below hb) hlen)
      obtain ⟨x, hx⟩ : ∃ x : Sp, x = ⟨(V : Int), (V : Int), instL l (V : Int)⟩ := ⟨_, rfl⟩
      have HNX : Hid (∀ X, X = extL (runV (instL l) m 0 []) x → runV (instL l) (m + 1) 0 [] = X) := fun X q => by
        rw [q, hx, runV_snoc, hVs]
      have hxf : x.f = (V : Int) := by rw [hx]
      have hxt : x.t = (V : Int) := by rw [hx]
      have hxi : instL l (V : Int) = x.i := by rw [hx]
      have hxC : spC x = #[.int .i64 (V : Int), .int .i64 (V : Int), .int .i64 x.i] := by unfold spC; rw [hxf, hxt]
      rw [hxi] at HI
      obtain ⟨O, hOe⟩ : ∃ O, O = runV (instL l) m 0 [] := ⟨_, rfl⟩
      rw [← hOe] at HO hOl HNX
      clear hOe hx hxi
      have HMV := Lib.hid hV
      clear hV hVs
      clear hxC
      obtain ⟨xf, xt, I⟩ := x
      obtain rfl : xf = (V : Int) := hxf
      obtain rfl : xt = (V : Int) := hxt
      dsimp only at HI
      rcases HO with ⟨rfl, rfl⟩ | ⟨hO1, g, cap, rfl, HOW⟩
      · skip
        go_wp2_with fail
        refine HI.out.mono ?_
        rintro e w4 ⟨rfl, k4⟩
        have hb4 := hb.trans (k4.mono hb.size)
        have HOn := World.ownsRow_nil w4 w.heap.size 42 3
        have hbz : w.heap.size ≤ w4.heap.size := hb4.size
        by_cases z0 : I = 0
        · have d0 : (I == 0) = true := by rw [beq_iff_eq]; exact z0
          have HN2 := HNX.out [] (by rw [ext_zero _ z0])
          clear HNX
          go_wp2_with fail
          go_roundw
          case rel => exact ⟨m + 1, by omega, by rw [← HMV.out]; go_num, Or.inl ⟨HN2, rfl⟩, hb4⟩
          case measure => simp [intOf]; omega
        · have d0 : (I == 0) = false := by rw [beq_eq_false_iff_ne]; exact z0
          have HN2 := Lib.hid (HNX.out [(⟨(V : Int), (V : Int), I⟩ : Sp)] (by rw [ext_nil z0]))
          clear HNX
          go_upto_region 10 with (fail)
          go_wp2_with (first
            | (refine build_blk (t := 42) (spC (⟨(V : Int), (V : Int), I⟩ : Sp)) (by rfl) rfl (by kernel_rfl) ?_)
            | (refine wpList_buildSlice rfl 27 42 1 _ rfl (spC (⟨(V : Int), (V : Int), I⟩ : Sp)) i0 (.agg (spC zSp)) Tryd.underlying27 hi hz0 (by rw [hz1]; decide) (by rw [hz1]; decide) (by rw [hz1]; simp only [List.map_toArray, List.map_cons, List.map_nil]; exact fill_sp2 (⟨(V : Int), (V : Int), I⟩ : Sp)) ?_)
            | (at_builtin; refine wpList_append_lies _ rfl _ _ _ rfl w.heap.size 42 i0 (.agg (spC zSp)) 3 24 Tryd.underlying27 hi hz0 hz1 hz2 rfl (by decide) (.slice none 0 0) 0 _ rfl (HOn.alloc _) ⟨w4.heap.size, 0, none⟩ 1 1 (spC (⟨(V : Int), (V : Int), I⟩ : Sp)).toList rfl rfl (World.news_of_block (heap_alloc_new w4 _)) (spC_cells (⟨(V : Int), (V : Int), I⟩ : Sp)) (by decide) (by unfold maxLen; omega) (by omega) (by simp; omega) _ rfl ?_; intro g6 cap6 w6 hown6 hgrow6 hat6 hlt6))
          have hb6 := (hb4.alloc hbz (.cells (spC (⟨(V : Int), (V : Int), I⟩ : Sp)) 42)).grown hgrow6 (by simp; omega) (fun q hq => by simp [Value.ownBlock] at hq)
          go_wp2
          go_roundw
          case rel => exact ⟨m + 1, by omega, by rw [← HMV.out]; go_num, by rw [HN2.out]; exact Or.inr ⟨by simp, g6, cap6, rfl, by rw [spL_one]; exact hown6⟩, hb6⟩
          case measure => simp [intOf]; omega
      · rcases snoc_or O with rfl | ⟨o1, y, rfl⟩
        · exact absurd rfl hO1
        have hgG : g < wr.heap.size := (HOW.lt g rfl).2
        have hgb : w.heap.size ≤ g := (HOW.lt g rfl).1
        have hn1 : (o1 ++ [y]).length = o1.length + 1 := by simp
        have hXt : (spL (o1 ++ [y]))[o1.length * 3 + 1]? = some (.int .i64 y.t) := by
          rw [spL_get (o1 ++ [y]) o1.length (by simp) 1 (by omega), show (o1 ++ [y])[o1.length]'(by simp) = y by simp]
          rfl
        have hXi : (spL (o1 ++ [y]))[o1.length * 3 + 2]? = some (.int .i64 y.i) := by
          rw [spL_get (o1 ++ [y]) o1.length (by simp) 2 (by omega), show (o1 ++ [y])[o1.length]'(by simp) = y by simp]
          rfl
        have HST : Hid (∀ (W' W2 : World) (cur : Array Value) (t : Int), W'.ownsRow w.heap.size 42 3 (.slice (some ⟨g, 0, none⟩) (o1.length + 1) cap) (o1.length + 1) (spL (o1 ++ [y])) → Blk W' g 42 cur → Blk W2 g 42 (cur.setIfInBounds (o1.length * 3 + 1) (.int .i64 t)) → OwnV W2 w.heap.size (.slice (some ⟨g, 0, none⟩) (o1.length + 1) cap) (o1 ++ [⟨y.f, t, y.i⟩])) := fun W' W2 cur t q1 q2 q3 => by
          rw [← hn1] at q1
          have q := own_store q1 q2 q3
          have hl2 : (o1 ++ [(⟨y.f, t, y.i⟩ : Sp)]).length = o1.length + 1 := by simp
          refine Or.inr ⟨by simp, g, cap, by rw [hl2], ?_⟩
          rw [hl2] at q ⊢
          exact q
        have HSM : Hid (∀ W', W'.ownsRow w.heap.size 42 3 (.slice (some ⟨g, 0, none⟩) (o1.length + 1) cap) (o1.length + 1) (spL (o1 ++ [y])) → OwnV W' w.heap.size (.slice (some ⟨g, 0, none⟩) (o1.length + 1) cap) (o1 ++ [y])) := fun W' q1 => by
          refine Or.inr ⟨by simp, g, cap, by rw [hn1], ?_⟩
          rw [hn1]
          exact q1
        have HAP : Hid (∀ W' g6 cap6, W'.ownsRow w.heap.size 42 3 (.slice (some ⟨g6, 0, none⟩) (o1.length + 1 + 1) cap6) (o1.length + 1 + 1) (spL (o1 ++ [y]) ++ (spC (⟨(V : Int), (V : Int), I⟩ : Sp)).toList) → OwnV W' w.heap.size (.slice (some ⟨g6, 0, none⟩) (o1.length + 1 + 1) cap6) (o1 ++ [y] ++ [(⟨(V : Int), (V : Int), I⟩ : Sp)])) := fun W' g6 cap6 q1 => by
          have hl3 : (o1 ++ [y] ++ [(⟨(V : Int), (V : Int), I⟩ : Sp)]).length = o1.length + 1 + 1 := by simp
          refine Or.inr ⟨by simp, g6, cap6, by rw [hl3], ?_⟩
          rw [hl3, spL_append (o1 ++ [y]) [(⟨(V : Int), (V : Int), I⟩ : Sp)], spL_one]
          exact q1
        have HBK : Hid (∀ W', W'.ownsRow w.heap.size 42 3 (.slice (some ⟨g, 0, none⟩) (o1.length + 1) cap) (o1.length + 1) (spL (o1 ++ [y])) → ∃ cur, Blk W' g 42 cur ∧ o1.length * 3 + 1 < cur.size) := fun W' q1 => by
          rw [← hn1] at q1
          obtain ⟨cur, e1, e2, -⟩ := own_blk q1
          exact ⟨cur, e1, by omega⟩
        have HX0 := fun z0 => HNX.out (o1 ++ [y]) (by rw [ext_zero _ z0])
        have HX1 := fun z0 h1 h2 => HNX.out (o1 ++ [⟨y.f, (V : Int), y.i⟩]) (by rw [ext_meet o1 y z0 h1 h2])
        have HX2 := fun z0 h1 => HNX.out (o1 ++ [y] ++ [(⟨(V : Int), (V : Int), I⟩ : Sp)]) (by rw [ext_more o1 y z0 h1])
        rw [hn1] at HOW hOl ⊢
        clear HNX hn1
        generalize spL (o1 ++ [y]) = XS at *
        generalize hnn : o1.length = n at *
        have he1 : IntKind.i64.wrap ((n : Int) + 1 - 1) = (n : Int) := by rw [IntKind.wrap_i64] <;> omega
        have he2 : (n : Int) + 1 - 1 = (n : Int) := by omega
        have he3 : (n : Int) < (n : Int) + 1 := by omega
        have he4 : (0 : Int) ≤ (n : Int) := by omega
        go_wp2_with fail
        refine HI.out.mono ?_
        rintro e w4 ⟨rfl, k4⟩
        have hb4 := hb.trans (k4.mono hb.size)
        have hbz : w.heap.size ≤ w4.heap.size := hb4.size
        have HOW4 : w4.ownsRow w.heap.size 42 3 (.slice (some ⟨g, 0, none⟩) (n + 1) cap) (n + 1) XS := HOW.kept (show wr.grownBy w4 none from ⟨k4.os, k4.tape, k4.output, k4.size, fun k hk _ => k4.block k hk⟩) (Or.inr (by simp [Value.ownBlock]))
        have ht4 := (HOW4.cellAt (n * 3 + 1) (by omega)).trans hXt
        have hi4 := (HOW4.cellAt (n * 3 + 2) (by omega)).trans hXi
        have hgI : (n : Int) + 1 ≤ 1000001 := by omega
        by_cases z0 : I = 0
        · have d0 : (I == 0) = true := by rw [beq_iff_eq]; exact z0
          have HN2 := HX0 z0
          clear HX0 HX1 HX2
          go_wp2_with fail
          go_roundw
          case rel => exact ⟨m + 1, by omega, by rw [← HMV.out]; go_num, by rw [HN2]; exact HSM.out _ HOW4, hb4⟩
          case measure => simp [intOf]; omega
        · have d0 : (I == 0) = false := by rw [beq_eq_false_iff_ne]; exact z0
          by_cases h1 : y.t = (V : Int) - 1
          · have d1 : (y.t == (V : Int) - 1) = true := by rw [beq_iff_eq]; exact h1
            by_cases h2 : y.i = I
            · have d2 : (y.i == I) = true := by rw [beq_iff_eq]; exact h2
              have HN2 := HX1 z0 h1 h2
              obtain ⟨cur, hcur, hcsz⟩ := HBK.out w4 HOW4
              have hstc := Lib.hid (st_cell cur (cur.setIfInBounds (n * 3 + 1) (.int .i64 (V : Int))) (n * 3 + 1) (.int .i64 (V : Int)) rfl hcsz rfl)
              have hkz : Hid (n * 3 + 1 + (Value.int .i64 (V : Int)).cells.toList.length ≤ cur.size) := hcsz
              clear HX0 HX1 HX2
              go_wp2_with (refine store_blk (k := n * 3 + 1) 3 (.int .i64 (V : Int)) (cur.setIfInBounds (n * 3 + 1) (.int .i64 (V : Int))) (by rfl) rfl rfl rfl hcur (by kernel_rfl) hkz.out rfl hstc.out (fun w5 R5 b5 g5 => ?_))
              go_roundw
              case rel => exact ⟨m + 1, by omega, by rw [← HMV.out]; go_num, by rw [HN2]; exact HST.out w4 w5 cur (V : Int) HOW4 hcur R5, hb4.trans (b5.mono hgb)⟩
              case measure => simp [intOf]; omega
            · have d2 : (y.i == I) = false := by rw [beq_eq_false_iff_ne]; exact h2
              have HN2 := HX2 z0 (fun q => h2 q.2)
              clear HX0 HX1 HX2
              go_upto_region 10 with (fail)
              go_wp2_with (first
                | (refine build_blk (t := 42) (spC (⟨(V : Int), (V : Int), I⟩ : Sp)) (by rfl) rfl (by kernel_rfl) ?_)
                | (refine wpList_buildSlice rfl 27 42 1 _ rfl (spC (⟨(V : Int), (V : Int), I⟩ : Sp)) i0 (.agg (spC zSp)) Tryd.underlying27 hi hz0 (by rw [hz1]; decide) (by rw [hz1]; decide) (by rw [hz1]; simp only [List.map_toArray, List.map_cons, List.map_nil]; exact fill_sp2 (⟨(V : Int), (V : Int), I⟩ : Sp)) ?_)
                | (at_builtin; refine wpList_append_lies _ rfl _ _ _ rfl w.heap.size 42 i0 (.agg (spC zSp)) 3 24 Tryd.underlying27 hi hz0 hz1 hz2 rfl (by decide) (.slice (some ⟨g, 0, none⟩) (n + 1) cap) (n + 1) _ rfl (HOW4.alloc _) ⟨w4.heap.size, 0, none⟩ 1 1 (spC (⟨(V : Int), (V : Int), I⟩ : Sp)).toList rfl rfl (World.news_of_block (heap_alloc_new w4 _)) (spC_cells (⟨(V : Int), (V : Int), I⟩ : Sp)) (by decide) (by unfold maxLen; omega) (by omega) (by simp; omega) _ rfl ?_; intro g6 cap6 w6 hown6 hgrow6 hat6 hlt6))
              have hb6 := (hb4.alloc hbz (.cells (spC (⟨(V : Int), (V : Int), I⟩ : Sp)) 42)).grown hgrow6 (by simp; omega) (fun q hq => by simp [Value.ownBlock] at hq; omega)
              go_wp2
              go_roundw
              case rel => exact ⟨m + 1, by omega, by rw [← HMV.out]; go_num, by rw [HN2]; exact HAP.out _ g6 cap6 hown6, hb6⟩
              case measure => simp [intOf]; omega
          · have d1 : (y.t == (V : Int) - 1) = false := by rw [beq_eq_false_iff_ne]; exact h1
            have HN2 := HX2 z0 (fun q => h1 q.1)
            clear HX0 HX1 HX2
            go_upto_region 10 with (fail)
            go_wp2_with (first
              | (refine build_blk (t := 42) (spC (⟨(V : Int), (V : Int), I⟩ : Sp)) (by rfl) rfl (by kernel_rfl) ?_)
              | (refine wpList_buildSlice rfl 27 42 1 _ rfl (spC (⟨(V : Int), (V : Int), I⟩ : Sp)) i0 (.agg (spC zSp)) Tryd.underlying27 hi hz0 (by rw [hz1]; decide) (by rw [hz1]; decide) (by rw [hz1]; simp only [List.map_toArray, List.map_cons, List.map_nil]; exact fill_sp2 (⟨(V : Int), (V : Int), I⟩ : Sp)) ?_)
              | (at_builtin; refine wpList_append_lies _ rfl _ _ _ rfl w.heap.size 42 i0 (.agg (spC zSp)) 3 24 Tryd.underlying27 hi hz0 hz1 hz2 rfl (by decide) (.slice (some ⟨g, 0, none⟩) (n + 1) cap) (n + 1) _ rfl (HOW4.alloc _) ⟨w4.heap.size, 0, none⟩ 1 1 (spC (⟨(V : Int), (V : Int), I⟩ : Sp)).toList rfl rfl (World.news_of_block (heap_alloc_new w4 _)) (spC_cells (⟨(V : Int), (V : Int), I⟩ : Sp)) (by decide) (by unfold maxLen; omega) (by omega) (by simp; omega) _ rfl ?_; intro g6 cap6 w6 hown6 hgrow6 hat6 hlt6))
            have hb6 := (hb4.alloc hbz (.cells (spC (⟨(V : Int), (V : Int), I⟩ : Sp)) 42)).grown hgrow6 (by simp; omega) (fun q hq => by simp [Value.ownBlock] at hq; omega)
            go_wp2
            go_roundw
            case rel => exact ⟨m + 1, by omega, by rw [← HMV.out]; go_num, by rw [HN2]; exact HAP.out _ g6 cap6 hown6, hb6⟩
            case measure => simp [intOf]; omega
    · obtain rfl : m = 4094 := by omega
      rw [HEND.out] at HO
      go_wp2
      go_ret
      exact ⟨⟨_, rfl, HO⟩, hb⟩

end Go.Proofs.YtlfeholphngilaaDoor
