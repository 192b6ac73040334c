/- The reference's Reads: the whole. -/
import Derived.Test.YtiikdmempgmlnaaDoorReads2
import Derived.Test.YtiikdmempgmlnaaDoorItoa
import Derived.Deep.RegionHeld3
import Derived.Deep.AppendLies
import Derived.Laws.EntriesVeiled
import Derived.Deep.DeepCutAuto
import Derived.Deep.CutBlock
namespace Go.Proofs.YtiikdmempgmlnaaDoor
open Go.RowKit
set_option linter.unusedVariables false

theorem good_any (w : World) : Calls Tryd.prog 35 #[] w fun e w' => e = .returned (.agg #[.int .i64 0, .int .i64 (-1)]) ∧ Below w.heap.size w w' := by
  go_enter Tryd.func35, Tryd.ntmps35
  go_wp2
  exact bodyPost_ret (v := .agg #[.int .i64 0, .int .i64 (-1)]) (by simp [results, Tryd.results35, go_sem]) rfl ⟨rfl, (Below.refl _ _).alloc (Nat.le_refl _) _⟩

/-- The slice of what is done lies at ⟨lb, lo⟩. -/
def ReadsAt (w : World) (lb lo : Nat) (l : List (Int × Int)) : Prop := ∀ j (h : j < l.length), w.cell? ⟨lb, lo + j * 2, none⟩ = some (.int .i64 l[j].1) ∧ w.cell? ⟨lb, lo + j * 2 + 1, none⟩ = some (.int .i64 l[j].2)

theorem Tryd.info9 : (Tryd.prog.info? 9).map (fun i => (i.zero, i.size, i.bytes)) = some (some (.string ⟨#[]⟩), 1, 16) := by kernel_rfl

theorem alloc4 (w : World) (a b c d : Obj) : ((((w.alloc a).alloc b).alloc c).alloc d).heap[w.heap.size]? = some a ∧ ((((w.alloc a).alloc b).alloc c).alloc d).heap[w.heap.size + 1]? = some b ∧
    ((((w.alloc a).alloc b).alloc c).alloc d).heap[w.heap.size + 1 + 1]? = some c ∧ ((((w.alloc a).alloc b).alloc c).alloc d).heap[w.heap.size + 1 + 1 + 1]? = some d := by
  have s1 : (w.alloc a).heap.size = w.heap.size + 1 := by simp
  have s2 : ((w.alloc a).alloc b).heap.size = w.heap.size + 1 + 1 := by simp
  have s3 : (((w.alloc a).alloc b).alloc c).heap.size = w.heap.size + 1 + 1 + 1 := by simp
  have e0 := heap_alloc_new w a
  have e1 := heap_alloc_new (w.alloc a) b
  have e2 := heap_alloc_new ((w.alloc a).alloc b) c
  have e3 := heap_alloc_new (((w.alloc a).alloc b).alloc c) d
  rw [s1] at e1
  rw [s2] at e2
  rw [s3] at e3
  exact ⟨(Below.heap_alloc _ d _ (by omega)).trans ((Below.heap_alloc _ c _ (by omega)).trans ((Below.heap_alloc _ b _ (by omega)).trans e0)),
    (Below.heap_alloc _ d _ (by omega)).trans ((Below.heap_alloc _ c _ (by omega)).trans e1), (Below.heap_alloc _ d _ (by omega)).trans e2, e3⟩

theorem owns_keep {w w' : World} {base c a : Nat} {e : TypeId} {size : Nat} {v : Value} {n : Nat} {xs : List Value} (h : w.ownsRow base e size v n xs) (q : Keep2 w w' c a) (hc : c < base) (ha : a < base) : w'.ownsRow base e size v n xs := by
  obtain ⟨h1, h2⟩ := h
  refine ⟨h1, ?_⟩
  rcases h2 with h2 | ⟨g, cap, cur, hv, hg, hh, r⟩
  · exact Or.inl h2
  · exact Or.inr ⟨g, cap, cur, hv, hg, (q.block g (lt_of_row hh) (by omega) (by omega)).trans hh, r⟩

/-- What one round's switch leaves. -/
def StepPost (w : World) (b o c a d : Nat) (s : ByteArray) (off : Nat) (r : List UInt8 × RSt) (v : Value) (w' : World) : Prop :=
  v = .string ⟨r.1.toArray⟩ ∧ RS w' b o c a d s off r.2 ∧ Keep2 w w' c a

/-- What Reads returns, and leaves. -/
def ReadsPost (w : World) (s : ByteArray) (off : Nat) (l : List (Int × Int)) (e : Ending) (w' : World) : Prop :=
  ∃ v base, e = .returned (.tuple #[v, .agg #[.int .i64 (stN s.data.toList off l l.length).2.1, .int .i64 (stN s.data.toList off l l.length).2.2]]) ∧ w.heap.size ≤ base ∧
    w'.ownsRow base 9 1 v l.length ((List.range l.length).map fun j => Value.string ⟨(lineN s.data.toList off l j).toArray⟩) ∧ Below w.heap.size w w'

theorem Keep2.refl (w : World) (c a : Nat) : Keep2 w w c a := ⟨rfl, rfl, rfl, Nat.le_refl _, fun _ _ _ _ => rfl⟩

set_option maxHeartbeats 3200000 in
set_option maxRecDepth 100000 in
theorem reads_any (s : ByteArray) (off : Nat) (l : List (Int × Int)) (lb lo lc : Nat) (w : World) (hT : HasTab w) (hs : s.size ≤ 100) (ho : off ≤ 1099511627776) (hl : l.length ≤ 30) (hl0 : 0 < l.length) (hlb : lb < w.heap.size) (hR : ReadsAt w lb lo l) :
    Calls Tryd.prog 14 #[.string s, .int .i64 off, .slice (some ⟨lb, lo, none⟩) l.length lc] w (ReadsPost w s off l) := by
  have hmf : ∀ (fn : Fn) (first cap : Array Value) (w : World), (Instr.makeFunc fn first cap).run Tryd.prog w = .ok (.func fn first cap) w := fun _ _ _ _ => rfl
  go_enter Tryd.func14, Tryd.ntmps14
  go_wp2_with fail
  refine (good_any _).mono ?_
  rintro e w1 ⟨rfl, hb1⟩
  obtain ⟨a0, a1, a2, a3⟩ := alloc4 w (.cells #[.string s] 9) (.cells #[.int .i64 off] 3) (.cells #[.int .i64 0, .int .i64 0] 38) (.cells #[.int .i64 0] 3)
  have hz : ((((w.alloc (.cells #[.string s] 9)).alloc (.cells #[.int .i64 off] 3)).alloc (.cells #[.int .i64 0, .int .i64 0] 38)).alloc (.cells #[.int .i64 0] 3)).heap.size = w.heap.size + 1 + 1 + 1 + 1 := by simp
  have hw : Below w.heap.size w ((((w.alloc (.cells #[.string s] 9)).alloc (.cells #[.int .i64 off] 3)).alloc (.cells #[.int .i64 0, .int .i64 0] 38)).alloc (.cells #[.int .i64 0] 3)) :=
    ((((Below.refl _ _).alloc (Nat.le_refl _) _).alloc (by simp) _).alloc (by simp; omega) _).alloc (by simp; omega) _
  generalize ((((w.alloc (.cells #[.string s] 9)).alloc (.cells #[.int .i64 off] 3)).alloc (.cells #[.int .i64 0, .int .i64 0] 38)).alloc (.cells #[.int .i64 0] 3)) = w0 at *
  have hw1 : Below w.heap.size w w1 := hw.trans (hb1.mono hw.size)
  have hz1 : w.heap.size + 4 ≤ w1.heap.size := by have := hb1.size; omega
  have b0 := (hb1.block _ (by omega)).trans a0
  have b1 := (hb1.block _ (by omega)).trans a1
  have b2 : Nt w1 (w.heap.size + 1 + 1) 0 0 := (hb1.block _ (by omega)).trans a2
  have b3 := (hb1.block _ (by omega)).trans a3
  have k0 := b2.c0
  have k1 := b2.c1
  have z0 := b2.fz 0
  have z1 := b2.fz 1
  have hT1 := hT.below hw1
  have hR1 : ReadsAt w1 lb lo l := fun j h => ⟨(hw1.cell (p := ⟨lb, _, none⟩) hlb).trans (hR j h).1, (hw1.cell (p := ⟨lb, _, none⟩) hlb).trans (hR j h).2⟩
  have hlb1 : lb < w1.heap.size := by omega
  clear a0 a1 a2 a3 hz hw hb1
  obtain ⟨B, hB⟩ : ∃ B, B = w.heap.size := ⟨_, rfl⟩
  rw [← hB] at b0 b1 b2 b3 hz1 k0 k1 z0 z1 hw1 hlb
  rw [← hB]
  have HB := Lib.hid hB
  clear hB
  go_wp2
  have rs : RS (((w1.setCell ⟨B + 1 + 1, 0, none⟩ (.int .i64 0)).setCell ⟨B + 1 + 1, 1, none⟩ (.int .i64 (-1))).alloc (.cells #[.func (.func 36) #[] #[.pointer (some ⟨B + 1 + 1, 0, none⟩)]] 51)) B (B + 1) (B + 1 + 1) (B + 1 + 1 + 1) w1.heap.size s off (0, 0, -1) := by
    have q := grownBy_trans (grownBy_setCell w1 (B + 1 + 1) 0 (.int .i64 0)) (grownBy_setCell _ (B + 1 + 1) 1 (.int .i64 (-1)))
    have sz : ((w1.setCell ⟨B + 1 + 1, 0, none⟩ (.int .i64 0)).setCell ⟨B + 1 + 1, 1, none⟩ (.int .i64 (-1))).heap.size = w1.heap.size := by simp [World.setCell]
    have hd := heap_alloc_new ((w1.setCell ⟨B + 1 + 1, 0, none⟩ (.int .i64 0)).setCell ⟨B + 1 + 1, 1, none⟩ (.int .i64 (-1))) (.cells #[.func (.func 36) #[] #[.pointer (some ⟨B + 1 + 1, 0, none⟩)]] 51)
    rw [sz] at hd
    refine ⟨?_, ?_, ?_, ?_, hd, by omega⟩
    · exact (Below.heap_alloc _ _ _ (by rw [sz]; omega)).trans ((q.block _ (by omega) (by intro e; cases e)).trans b0)
    · exact (Below.heap_alloc _ _ _ (by rw [sz]; omega)).trans ((q.block _ (by omega) (by intro e; cases e)).trans b1)
    · exact (Below.heap_alloc _ _ _ (by rw [sz]; omega)).trans (b2.set2 0 (-1))
    · exact (Below.heap_alloc _ _ _ (by rw [sz]; omega)).trans ((q.block _ (by omega) (by intro e; cases e)).trans b3)
  have hb3 : Below B w (((w1.setCell ⟨B + 1 + 1, 0, none⟩ (.int .i64 0)).setCell ⟨B + 1 + 1, 1, none⟩ (.int .i64 (-1))).alloc (.cells #[.func (.func 36) #[] #[.pointer (some ⟨B + 1 + 1, 0, none⟩)]] 51)) :=
    ((hw1.setCell (p := ⟨B + 1 + 1, 0, none⟩) (by show B ≤ B + 1 + 1; omega) _).setCell (p := ⟨B + 1 + 1, 1, none⟩) (by show B ≤ B + 1 + 1; omega) _).alloc (by simp [World.setCell]; omega) _
  have hM : w1.heap.size + 1 = (((w1.setCell ⟨B + 1 + 1, 0, none⟩ (.int .i64 0)).setCell ⟨B + 1 + 1, 1, none⟩ (.int .i64 (-1))).alloc (.cells #[.func (.func 36) #[] #[.pointer (some ⟨B + 1 + 1, 0, none⟩)]] 51)).heap.size := by simp [World.setCell]
  obtain ⟨D, hD⟩ : ∃ D, D = w1.heap.size := ⟨_, rfl⟩
  rw [← hD] at rs hM hz1 hlb1
  rw [← hD]
  generalize (((w1.setCell ⟨B + 1 + 1, 0, none⟩ (.int .i64 0)).setCell ⟨B + 1 + 1, 1, none⟩ (.int .i64 (-1))).alloc (.cells #[.func (.func 36) #[] #[.pointer (some ⟨B + 1 + 1, 0, none⟩)]] 51)) = w2 at *
  clear hw1 b0 b1 b2 b3 k0 k1 z0 z1 hT1 hR1 hD hmf
  go_loopw [6, 24] (fun v i wr => ∃ k : Nat, k ≤ l.length ∧ i = .int .i64 k ∧ wr.ownsRow (D + 1) 9 1 v k ((List.range k).map fun j => Value.string ⟨(lineN s.data.toList off l j).toArray⟩) ∧
      RS wr B (B + 1) (B + 1 + 1) (B + 1 + 1 + 1) D s off (stN s.data.toList off l k) ∧ Below B w wr ∧ D + 1 ≤ wr.heap.size) (fun _ i _ => l.length - (intOf i).toNat)
  case atStart => exact ⟨0, Nat.zero_le _, rfl, World.ownsRow_nil _ _ _ _, rs, hb3, by omega⟩
  case round =>
    obtain ⟨k, hk, rfl, hown, hrs, hbel, hsz⟩ := hrel
    by_cases hlt : k < l.length
    · obtain ⟨x1, x2, hxk⟩ : ∃ x1 x2, l[k] = (x1, x2) := ⟨_, _, rfl⟩
      have hgd : l.getD k (0, 0) = (x1, x2) := by rw [List.getD_eq_getElem?_getD, List.getElem?_eq_getElem hlt]; exact hxk
      have hx1 : wr.cell? ⟨lb, lo + k * 2, none⟩ = some (.int .i64 x1) := by
        have q := (hbel.cell (p := ⟨lb, lo + k * 2, none⟩) hlb).trans (hR k hlt).1
        rw [hxk] at q; exact q
      have hx2 : wr.cell? ⟨lb, lo + k * 2 + 1, none⟩ = some (.int .i64 x2) := by
        have q := (hbel.cell (p := ⟨lb, lo + k * 2 + 1, none⟩) hlb).trans (hR k hlt).2
        rw [hxk] at q; exact q
      have hple := stN_le s.data.toList off l k
      have hok := stN_e s.data.toList off l k
      have hLs : s.data.toList.length = s.size := by simp
      rw [hLs] at hple
      have HST : Hid (stN s.data.toList off l (k + 1) = (stepR s.data.toList off (x1, x2) (stN s.data.toList off l k)).2) := by show _ = _; rw [stN, hgd]
      have HLN : Hid (lineN s.data.toList off l k = lineOf s.data.toList off (stepR s.data.toList off (x1, x2) (stN s.data.toList off l k))) := by show _ = _; rw [lineN, hgd]
      clear hgd hxk hLs
      generalize stN s.data.toList off l k = st at *
      go_upto_block 2 with (fail)
      go_cut [13] (fun s13 wx => StepPost (wr.alloc (.cells #[.int .i64 x1, .int .i64 x2] 42)) B (B + 1) (B + 1 + 1) (B + 1 + 1 + 1) D s off (stepR s.data.toList off (x1, x2) st) s13 wx)
      case first =>
        have rs1 := hrs.below ((Below.refl _ _).alloc (Nat.le_refl _) (.cells #[.int .i64 x1, .int .i64 x2] 42))
        by_cases c0 : x1 = 0
        · subst c0
          go_wp2_with fail
          refine (take_any x2 false st _ rs1 hple hs ho).mono ?_
          rintro e w3 ⟨rfl, r3, q3⟩
          go_wp2_with fail
          go_meet
          exact ⟨rfl, r3, q3⟩
        have c0b : (x1 == 0) = false := beq_eq_false_iff_ne.2 c0
        by_cases c1 : x1 = 1
        · subst c1
          go_wp2_with fail
          refine (take_any x2 true st _ rs1 hple hs ho).mono ?_
          rintro e w3 ⟨rfl, r3, q3⟩
          have hcv := fun W => run_bytes_of_string (P := Tryd.prog) W 9 61 5 ⟨(takeN s.data.toList off st x2 true).1.toArray⟩ Tryd.underlying9 Tryd.underlying61 Tryd.underlying5
          have h8 := takeN_len8 s.data.toList off st x2
          have HS : Hid (stepR s.data.toList off (1, x2) st = (Lib.itoa (wrap64 (beN (takeN s.data.toList off st x2 true).1)), (takeN s.data.toList off st x2 true).2)) := by show _ = _; simp [stepR]
          generalize takeN s.data.toList off st x2 true = tt at *
          obtain ⟨t, st3⟩ := tt
          have ht8 : t.length ≤ 8 := h8
          clear h8
          go_wp2
          have hB := byteRow_new w3 ⟨t.toArray⟩ (grownCap w3 t.length 0 5) 5
          have b4 : Below w3.heap.size w3 ((w3.alloc (Obj.cells (bytesRow ⟨t.toArray⟩ (grownCap w3 t.length 0 5)) 5 ((bytesRow ⟨t.toArray⟩ (grownCap w3 t.length 0 5)).size, (bytesRow ⟨t.toArray⟩ (grownCap w3 t.length 0 5)).size + 1))).drew) := ((Below.refl _ _).alloc (Nat.le_refl _) _).drew
          generalize ((w3.alloc (Obj.cells (bytesRow ⟨t.toArray⟩ (grownCap w3 t.length 0 5)) 5 ((bytesRow ⟨t.toArray⟩ (grownCap w3 t.length 0 5)).size, (bytesRow ⟨t.toArray⟩ (grownCap w3 t.length 0 5)).size + 1))).drew) = w4 at *
          have hB' : ByteRow w4 w3.heap.size t := hB
          have hT4 : HasTab w4 := by
            have q := q3.below (hbel.alloc (by omega) (.cells #[.int .i64 1, .int .i64 x2] 42)) (by simp; omega) (by omega) (by omega)
            rw [HB.out] at q; exact (hT.below q).below b4
          clear hB hcv
          obtain ⟨wo, rfl⟩ : ∃ wo : World, wo = wr := ⟨_, rfl⟩
          go_loop [14, 44] (fun x i => ∃ j : Nat, j ≤ t.length ∧ i = .int .i64 j ∧ x = .int .i64 (wrap64 (beN (t.take j)))) (fun _ i => t.length - (intOf i).toNat)
          case atStart => exact ⟨0, by omega, rfl, by simp [beN, wrap64]⟩
          case round =>
            obtain ⟨j, hj, rfl, rfl⟩ := hrel
            by_cases hlt : j < t.length
            · have hcell := hB' j (t[j]'hlt) (List.getElem?_eq_getElem _)
              have hX : beN (t.take j) < 72057594037927936 := by
                have h := beN_lt (t.take j)
                have hl : (t.take j).length = j := by rw [List.length_take]; omega
                rw [hl] at h
                have h7 : 256 ^ j ≤ 256 ^ 7 := Nat.pow_le_pow_right (by omega) (by omega)
                omega
              have hw : wrap64 (beN (t.take j) : Int) = (beN (t.take j) : Int) := by unfold wrap64; omega
              have HN := Lib.hid (take_snoc t j hlt)
              have HO := Lib.hid (or_step64 (beN (t.take j)) (t[j]'hlt) hX)
              clear hX
              go_wp2
              go_round
              case rel => exact ⟨j + 1, by omega, by go_num, by rw [HO.out, HN.out, beN_snoc]⟩
              case measure => simp [intOf]; omega
            · obtain rfl : j = t.length := by omega
              go_wp2_with fail
              refine (itoa_any (wrap64 (beN t : Int)) _ hT4 (wrap64_in _).1 (wrap64_in _).2).mono ?_
              rintro e w5 ⟨rfl, b5⟩
              go_wp2_with fail
              go_meet
              exact ⟨by rw [HS.out], by rw [HS.out]; exact (r3.below b4).below b5, (q3.trans (keep_below b4)).trans (keep_below b5)⟩
        have c1b : (x1 == 1) = false := beq_eq_false_iff_ne.2 c1
        by_cases c2 : x1 = 2
        · subst c2
          obtain ⟨p, e0, pl⟩ := st
          have hp0 : p ≤ s.size := hple
          have n0 : (wr.alloc (.cells #[.int .i64 2, .int .i64 x2] 42)).cell? ⟨B + 1 + 1, 0, none⟩ = some (.int .i64 e0) := rs1.hc.c0
          have n1 : (wr.alloc (.cells #[.int .i64 2, .int .i64 x2] 42)).cell? ⟨B + 1 + 1, 1, none⟩ = some (.int .i64 pl) := rs1.hc.c1
          by_cases he : e0 ≠ 0
          · have HS : Hid (stepR s.data.toList off (2, x2) (p, e0, pl) = (Lib.formatBool false, p, e0, pl)) := by show _ = _; simp [stepR, he]
            go_wp2
            refine wp_loop_rounds 1 ?_
            rw [rounds_succ]
            go_wp2_with fail
            refine (is_no e0 pl _ he).mono ?_
            rintro e w3 ⟨rfl, b3⟩
            have r3 := rs1.below b3
            have m0 : w3.cell? ⟨B + 1 + 1, 0, none⟩ = some (.int .i64 e0) := r3.hc.c0
            have m1 : w3.cell? ⟨B + 1 + 1, 1, none⟩ = some (.int .i64 pl) := r3.hc.c1
            clear n0 n1
            go_wp2_with fail
            refine (is_no e0 pl _ he).mono ?_
            rintro e w4 ⟨rfl, b4⟩
            have r4 := r3.below b4
            go_wp2_with fail
            refine (Tryd.strconv_FormatBool false _).mono ?_
            rintro e w5 ⟨rfl, hw5⟩
            subst hw5
            go_wp2_with fail
            go_meet
            exact ⟨by rw [HS.out], by rw [HS.out]; exact r4, (keep_below b3).trans (keep_below b4)⟩
          · have he0 : e0 = 0 := Decidable.not_not.1 he
            subst he0
            clear he n0 n1
            go_wp2
            obtain ⟨wo, rfl⟩ : ∃ wo : World, wo = wr := ⟨_, rfl⟩
            go_loopw [61] (fun _ wr => ∃ p' : Nat, p ≤ p' ∧ p' ≤ s.size ∧ (∀ (j : Nat) bb, j < p' - p → (s.data.toList.drop p)[j]? = some bb → bb = 0) ∧ RS wr B (B + 1) (B + 1 + 1) (B + 1 + 1 + 1) D s off (p', 0, pl) ∧
                Keep2 (wo.alloc (.cells #[.int .i64 2, .int .i64 x2] 42)) wr (B + 1 + 1) (B + 1 + 1 + 1)) (fun _ wr => s.size - (intOf ((wr.cell? ⟨B + 1 + 1 + 1, 0, none⟩).getD undef)).toNat)
            case atStart => exact ⟨p, Nat.le_refl _, hp0, fun j bb hj => by omega, rs1, Keep2.refl _ _ _⟩
            case round =>
              obtain ⟨p', hp1, hp2, hzer, rz, qz⟩ := hrel
              have m0 : wr.cell? ⟨B + 1 + 1, 0, none⟩ = some (.int .i64 0) := rz.hc.c0
              have m1 : wr.cell? ⟨B + 1 + 1, 1, none⟩ = some (.int .i64 pl) := rz.hc.c1
              have m2 : wr.cell? ⟨B + 1 + 1 + 1, 0, none⟩ = some (.int .i64 p') := rz.ka
              have HZ := Lib.hid hzer
              have hdl : (s.data.toList.drop p).length = s.size - p := by rw [List.length_drop, Array.length_toList]; rfl
              clear hzer
              go_wp2_with fail
              refine (is_yes pl _).mono ?_
              rintro e w3 ⟨rfl, b3⟩
              have r3 := rz.below b3
              have q3 := qz.trans (keep_below b3)
              have n0 : w3.cell? ⟨B + 1 + 1, 0, none⟩ = some (.int .i64 0) := r3.hc.c0
              have n1 : w3.cell? ⟨B + 1 + 1, 1, none⟩ = some (.int .i64 pl) := r3.hc.c1
              have n2 : w3.cell? ⟨B + 1 + 1 + 1, 0, none⟩ = some (.int .i64 p') := r3.ka
              have n3 := r3.kb
              have n4 : w3.cell? ⟨B + 1, 0, none⟩ = some (.int .i64 off) := r3.ko
              have n5 := r3.kd
              have n6 := r3.za
              clear m0 m1 b3 rz qz
              by_cases hlt : p' < s.size
              · obtain ⟨bb, hbb⟩ : ∃ bb, bb = s[p'] := ⟨_, rfl⟩
                have hget : (s.data.toList.drop p)[p' - p]? = some bb := by
                  rw [List.getElem?_drop, show p + (p' - p) = p' by omega, hbb, Array.getElem?_toList]
                  exact Array.getElem?_eq_getElem hlt
                by_cases hz : bb = 0
                · subst hz
                  have hb0 : s[p'] = 0 := hbb.symm
                  have hlt1 : (p' : Int) < (s.size : Int) := by omega
                  have r4 : RS (w3.setCell ⟨B + 1 + 1 + 1, 0, none⟩ (.int .i64 ((p' : Int) + 1))) B (B + 1) (B + 1 + 1) (B + 1 + 1 + 1) D s off (p' + 1, 0, pl) := r3.move (by simp)
                  have R4 := Lib.hid r4
                  have Q4 := Lib.hid (q3.trans (keep_a (w := w3) (a := B + 1 + 1 + 1) (.int .i64 ((p' : Int) + 1))))
                  have HG := Lib.hid hget
                  clear hbb hget r4 r3 q3
                  go_wp2
                  go_roundw
                  case rel =>
                    refine ⟨p' + 1, by omega, by omega, fun i bc hi hc => ?_, R4.out, Q4.out⟩
                    by_cases hq : i < p' - p
                    · exact HZ.out i bc hq hc
                    · have hi2 : i = p' - p := by omega
                      subst hi2
                      have := HG.out.symm.trans hc
                      exact (Option.some.inj this).symm
                  case measure =>
                    have k4 : (w3.setCell ⟨B + 1 + 1 + 1, 0, none⟩ (.int .i64 ((p' : Int) + 1))).cell? ⟨B + 1 + 1 + 1, 0, none⟩ = some (.int .i64 ((p' + 1 : Nat) : Int)) := R4.out.ka
                    rw [k4, m2]
                    simp [intOf]
                    omega
                · have hlead : lead (s.data.toList.drop p) = p' - p := lead_at _ _ (by rw [hdl]; omega) HZ.out (fun b2 hb2 => by
                    have e := hget.symm.trans hb2
                    rw [← Option.some.inj e]; exact hz)
                  have HS : Hid (stepR s.data.toList off (2, x2) (p, 0, pl) = (Lib.formatBool false, p', 15, (off : Int) + (p' : Nat))) := by
                    show _ = _
                    have hne : ¬ p + (p' - p) = s.data.toList.length := by rw [Array.length_toList]; show ¬ p + (p' - p) = s.size; omega
                    have e : p + (p' - p) = p' := by omega
                    simp only [stepR, hlead]
                    rw [if_neg (by decide), if_neg (by decide), if_pos trivial, if_neg (by decide), if_neg hne, e]
                  have hnz : s[p'] ≠ 0 := fun q => hz (hbb.trans q)
                  have hnt : s[p'].toNat ≠ 0 := fun q => hnz (UInt8.toNat_inj.1 q)
                  have e1 : ((s[p'].toNat : Int) != 0) = true := by rw [bne_iff_ne]; omega
                  have e2 : ¬ (s[p'].toNat : Int) = 0 := by omega
                  have hlt1 : (p' : Int) < (s.size : Int) := by omega
                  clear hnz hnt hz hbb hget hlead
                  go_wp2_with fail
                  refine (note_first 15 _ _ r3.hc).mono ?_
                  rintro e w4 ⟨rfl, hn4, g4⟩
                  have r4 := r3.note g4 hn4
                  have q4 := q3.trans (keep_c g4)
                  have o0 : w4.cell? ⟨B + 1 + 1, 0, none⟩ = some (.int .i64 15) := hn4.c0
                  have o1 : w4.cell? ⟨B + 1 + 1, 1, none⟩ = some (.int .i64 ((off : Int) + (p' : Int))) := hn4.c1
                  clear e1 e2 n0 n1 n2 n3 n4 n5 n6 m2 r3 q3
                  go_wp2_with fail
                  refine (is_no 15 _ _ (by decide)).mono ?_
                  rintro e w5 ⟨rfl, b5⟩
                  go_wp2_with fail
                  refine (Tryd.strconv_FormatBool false _).mono ?_
                  rintro e w6 ⟨rfl, hw6⟩
                  subst hw6
                  go_wp2_with fail
                  go_meet
                  exact ⟨by rw [HS.out], by rw [HS.out]; exact r4.below b5, q4.trans (keep_below b5)⟩
              · obtain rfl : p' = s.size := by omega
                have hlead : lead (s.data.toList.drop p) = s.size - p := lead_at _ _ (by rw [hdl]; exact Nat.le_refl _) HZ.out (fun b2 hb2 => by
                  have e := (List.getElem?_eq_some_iff.1 hb2).1
                  omega)
                have HS : Hid (stepR s.data.toList off (2, x2) (p, 0, pl) = (Lib.formatBool true, s.size, 0, pl)) := by
                  show _ = _
                  have hne : p + (s.size - p) = s.data.toList.length := by rw [Array.length_toList]; show p + (s.size - p) = s.size; omega
                  have e : s.data.toList.length = s.size := by rw [Array.length_toList]; rfl
                  simp only [stepR, hlead]
                  rw [if_neg (by decide), if_neg (by decide), if_pos trivial, if_neg (by decide), if_pos hne, e]
                clear hlead m2
                go_wp2_with fail
                refine (is_yes pl _).mono ?_
                rintro e w5 ⟨rfl, b5⟩
                go_wp2_with fail
                refine (Tryd.strconv_FormatBool true _).mono ?_
                rintro e w6 ⟨rfl, hw6⟩
                subst hw6
                go_wp2_with fail
                go_meet
                exact ⟨by rw [HS.out], by rw [HS.out]; exact r3.below b5, q3.trans (keep_below b5)⟩
        have c2b : (x1 == 2) = false := beq_eq_false_iff_ne.2 c2
        by_cases c3 : x1 = 3
        · subst c3
          obtain ⟨p, e0, pl⟩ := st
          have ka := rs1.ka
          have ko := rs1.ko
          have hp0 : p ≤ s.size := hple
          have hlt1 := takeN_len s.data.toList off (p, e0, pl) x2 false
          have hok1 := takeN_e s.data.toList off (p, e0, pl) x2 false hok
          rw [Array.length_toList] at hlt1
          have HS : Hid (stepR s.data.toList off (3, x2) (p, e0, pl) = (Lib.itoa ((off : Int) + p) ++ [32] ++ Lib.itoa (takeN s.data.toList off (p, e0, pl) x2 false).1.length ++ [32] ++ (takeN s.data.toList off (p, e0, pl) x2 false).1 ++ [32] ++ Lib.itoa (takeN s.data.toList off (p, e0, pl) x2 false).2.2.1, (takeN s.data.toList off (p, e0, pl) x2 false).2)) := by show _ = _; simp [stepR]
          go_wp2_with fail
          refine (take_any x2 false (p, e0, pl) _ rs1 hple hs ho).mono ?_
          rintro e w3 ⟨rfl, r3, q3⟩
          have hT3 : HasTab w3 := by
            have q := q3.below (hbel.alloc (by omega) (.cells #[.int .i64 3, .int .i64 x2] 42)) (by simp; omega) (by omega) (by omega)
            rw [HB.out] at q; exact hT.below q
          generalize takeN s.data.toList off (p, e0, pl) x2 false = tt at *
          obtain ⟨t, p3, e3, pl3⟩ := tt
          have ht : t.length ≤ 100 := Nat.le_trans hlt1 hs
          have he0 : 0 ≤ e3 := hok1.1
          have he1 : e3 ≤ 15 := hok1.2
          have r3d : RS w3.drew B (B + 1) (B + 1 + 1) (B + 1 + 1 + 1) D s off (p3, e3, pl3) := r3.drew
          have hTd : HasTab w3.drew := hT3
          have k0 : w3.drew.cell? ⟨B + 1 + 1, 0, none⟩ = some (.int .i64 e3) := r3.hc.c0
          have L1 := Lib.itoa_length_le ((off : Int) + (p : Int)) (by omega) (by omega)
          have L2 := Lib.itoa_length_le (t.length : Int) (by omega) (by omega)
          have L3 := Lib.itoa_length_le e3 (by omega) (by omega)
          obtain ⟨y1, hy1⟩ : ∃ y1, y1 = Lib.itoa ((off : Int) + (p : Int)) ++ [32] := ⟨_, rfl⟩
          obtain ⟨y2, hy2⟩ : ∃ y2, y2 = y1 ++ Lib.itoa (t.length : Int) := ⟨_, rfl⟩
          obtain ⟨y3, hy3⟩ : ∃ y3, y3 = y2 ++ [32] := ⟨_, rfl⟩
          obtain ⟨y4, hy4⟩ : ∃ y4, y4 = y3 ++ t := ⟨_, rfl⟩
          obtain ⟨y5, hy5⟩ : ∃ y5, y5 = y4 ++ [32] := ⟨_, rfl⟩
          obtain ⟨y6, hy6⟩ : ∃ y6, y6 = y5 ++ Lib.itoa e3 := ⟨_, rfl⟩
          have z1 : y1.length ≤ 22 := by rw [hy1, List.length_append, List.length_singleton]; omega
          have z2 : y2.length ≤ 43 := by rw [hy2, List.length_append]; omega
          have z3 : y3.length ≤ 44 := by rw [hy3, List.length_append, List.length_singleton]; omega
          have z4 : y4.length ≤ 144 := by rw [hy4, List.length_append]; omega
          have z5 : y5.length ≤ 145 := by rw [hy5, List.length_append, List.length_singleton]; omega
          have d1 : ∀ W, (Op.stringOp .add ⟨(Lib.itoa ((off : Int) + (p : Int))).toArray⟩ ⟨#[32]⟩).run Tryd.prog W = .ok (.string ⟨y1.toArray⟩) W := fun W => by rw [hy1]; exact run_string_add_lists W _ [32] (by omega) (by decide)
          have d2 : ∀ W, (Op.stringOp .add ⟨y1.toArray⟩ ⟨(Lib.itoa (t.length : Int)).toArray⟩).run Tryd.prog W = .ok (.string ⟨y2.toArray⟩) W := fun W => by rw [hy2]; exact run_string_add_lists W _ _ (by omega) (by omega)
          have d3 : ∀ W, (Op.stringOp .add ⟨y2.toArray⟩ ⟨#[32]⟩).run Tryd.prog W = .ok (.string ⟨y3.toArray⟩) W := fun W => by rw [hy3]; exact run_string_add_lists W _ [32] (by omega) (by decide)
          have d4 : ∀ W, (Op.stringOp .add ⟨y3.toArray⟩ ⟨t.toArray⟩).run Tryd.prog W = .ok (.string ⟨y4.toArray⟩) W := fun W => by rw [hy4]; exact run_string_add_lists W _ _ (by omega) (by omega)
          have d5 : ∀ W, (Op.stringOp .add ⟨y4.toArray⟩ ⟨#[32]⟩).run Tryd.prog W = .ok (.string ⟨y5.toArray⟩) W := fun W => by rw [hy5]; exact run_string_add_lists W _ [32] (by omega) (by decide)
          have d6 : ∀ W, (Op.stringOp .add ⟨y5.toArray⟩ ⟨(Lib.itoa e3).toArray⟩).run Tryd.prog W = .ok (.string ⟨y6.toArray⟩) W := fun W => by rw [hy6]; exact run_string_add_lists W _ _ (by omega) (by omega)
          have HY : Hid (y6 = Lib.itoa ((off : Int) + p) ++ [32] ++ Lib.itoa (t.length : Int) ++ [32] ++ t ++ [32] ++ Lib.itoa e3) := by show _ = _; rw [hy6, hy5, hy4, hy3, hy2, hy1]
          have k0 : w3.cell? ⟨B + 1 + 1, 0, none⟩ = some (.int .i64 e3) := r3.hc.c0
          clear hy1 hy2 hy3 hy4 hy5 hy6 z1 z2 z3 z4 z5 hlt1 hok1 hok rs1 ka ko
          go_wp2_with fail
          go_region_held3 (fun w' => w'.cell? ⟨B + 1 + 1, 0, none⟩ = some (.int .i64 e3))
            (first
              | exact r7.hc.c0
              | exact r6.hc.c0
              | exact r5.hc.c0
              | exact k0)
            (first
              | (go_at_call 16; (with_reducible refine (itoa_any ((off : Int) + (p : Int)) _ ?_ ?_ ?_).mono ?_); exact hTd; omega; omega; rintro e w5 ⟨rfl, b5⟩; have r5 := r3d.below b5)
              | (go_at_call 16; (with_reducible refine (itoa_any (t.length : Int) _ ?_ ?_ ?_).mono ?_); exact hTd.below b5; omega; omega; rintro e w6 ⟨rfl, b6⟩; have r6 := r5.below b6)
              | (go_at_call 16; (with_reducible refine (itoa_any e3 _ ?_ ?_ ?_).mono ?_); exact (hTd.below b5).below b6; omega; omega; rintro e w7 ⟨rfl, b7⟩; have r7 := r6.below b7))
          have q7 := ((q3.trans (keep_below (c := B + 1 + 1) (a := B + 1 + 1 + 1) (show Below w3.heap.size w3 w5 from ⟨b5.os, b5.tape, b5.output, b5.size, b5.block⟩))).trans (keep_below b6)).trans (keep_below b7)
          clear d1 d2 d3 d4 d5 d6
          go_wp2_with fail
          go_meet
          exact ⟨by rw [HS.out, HY.out], by rw [HS.out]; exact r7, q7⟩
        have c3b : (x1 == 3) = false := beq_eq_false_iff_ne.2 c3
        by_cases c4 : x1 = 4
        · subst c4
          have k1 := rs1.kd
          obtain ⟨p, e0, pl⟩ := st
          by_cases he : e0 ≠ 0
          · have HS : Hid (stepR s.data.toList off (4, x2) (p, e0, pl) = ([], p, e0, pl)) := by show _ = _; simp [stepR, he]
            go_wp2_with fail
            refine (note_noted 6 x2 _ rs1.hc he).mono ?_
            rintro e w3 ⟨rfl, b3⟩
            have r3 := rs1.below b3
            go_wp2_with fail
            go_meet
            exact ⟨by rw [HS.out], by rw [HS.out]; exact r3, keep_below b3⟩
          · have he0 : e0 = 0 := Decidable.not_not.1 he
            subst he0
            have HS : Hid (stepR s.data.toList off (4, x2) (p, 0, pl) = ([], p, 6, x2)) := by show _ = _; simp [stepR]
            clear he
            go_wp2_with fail
            refine (note_first 6 x2 _ rs1.hc).mono ?_
            rintro e w3 ⟨rfl, n3, g3⟩
            have r3 := rs1.note g3 n3
            go_wp2_with fail
            go_meet
            exact ⟨by rw [HS.out], by rw [HS.out]; exact r3, keep_c g3⟩
        have c4b : (x1 == 4) = false := beq_eq_false_iff_ne.2 c4
        have HS : Hid (stepR s.data.toList off (x1, x2) st = ([], st)) := by show _ = _; simp [stepR, c0, c1, c2, c3, c4]
        clear c0 c1 c2 c3 c4
        go_wp2_with fail
        go_meet
        exact ⟨by rw [HS.out], by rw [HS.out]; exact rs1, Keep2.refl _ _ _⟩
      case rest =>
        obtain ⟨rfl, r3, q3⟩ := hcut
        have q3' : Keep2 wr wc (B + 1 + 1) (B + 1 + 1 + 1) := (keep_below ((Below.refl _ _).alloc (Nat.le_refl _) _)).trans q3
        have own3 := owns_keep hown q3' (by omega) (by omega)
        have bel3 := q3'.below hbel (by omega) (by omega) (by omega)
        have sz3 : D + 1 ≤ wc.heap.size := Nat.le_trans hsz q3'.size
        have hle3 := stepR_le s.data.toList off (x1, x2) st (by rw [Array.length_toList]; exact hple)
        have hlen3 := stepR_len s.data.toList off (x1, x2) st (by rw [Array.length_toList]; exact hs) ho (by rw [Array.length_toList]; exact hple) hok
        have hTc : HasTab wc := by have q := bel3; rw [HB.out] at q; exact hT.below q
        clear q3 q3' hown hbel hrs hx1 hx2 hple
        generalize stepR s.data.toList off (x1, x2) st = rr at *
        obtain ⟨got, p3, e3, pl3⟩ := rr
        have hp3 : p3 ≤ s.size := by rw [Array.length_toList] at hle3; exact hle3
        have hg3 : got.length ≤ 200 := hlen3
        have r3d : RS wc.drew B (B + 1) (B + 1 + 1) (B + 1 + 1 + 1) D s off (p3, e3, pl3) := r3.drew
        have hTd : HasTab wc.drew := hTc
        have k0 : wc.cell? ⟨B, 0, none⟩ = some (.string s) := r3.kb
        have k1 : wc.cell? ⟨B + 1, 0, none⟩ = some (.int .i64 off) := r3.ko
        have k2 : wc.cell? ⟨B + 1 + 1 + 1, 0, none⟩ = some (.int .i64 p3) := r3.ka
        have v1 : IntKind.i64.wrap ((s.size : Int) - (p3 : Int)) = (s.size : Int) - (p3 : Int) := by rw [IntKind.wrap_i64]; omega
        have v2 : IntKind.i64.wrap ((off : Int) + (p3 : Int)) = (off : Int) + (p3 : Int) := by rw [IntKind.wrap_i64]; omega
        have L1 := Lib.itoa_length_le ((s.size : Int) - (p3 : Int)) (by omega) (by omega)
        have L2 := Lib.itoa_length_le ((off : Int) + (p3 : Int)) (by omega) (by omega)
        obtain ⟨y1, hy1⟩ : ∃ y1, y1 = got ++ [124] := ⟨_, rfl⟩
        obtain ⟨y2, hy2⟩ : ∃ y2, y2 = y1 ++ Lib.itoa ((s.size : Int) - (p3 : Int)) := ⟨_, rfl⟩
        obtain ⟨y3, hy3⟩ : ∃ y3, y3 = y2 ++ [32] := ⟨_, rfl⟩
        obtain ⟨y4, hy4⟩ : ∃ y4, y4 = y3 ++ Lib.itoa ((off : Int) + (p3 : Int)) := ⟨_, rfl⟩
        have z1 : y1.length ≤ 201 := by rw [hy1, List.length_append]; show got.length + 1 ≤ 201; omega
        have z2 : y2.length ≤ 222 := by rw [hy2, List.length_append]; omega
        have z3 : y3.length ≤ 223 := by rw [hy3, List.length_append]; show y2.length + 1 ≤ 223; omega
        have c1 : ∀ W, (Op.stringOp .add ⟨got.toArray⟩ ⟨#[124]⟩).run Tryd.prog W = .ok (.string ⟨y1.toArray⟩) W := fun W => by rw [hy1]; exact run_string_add_lists W got [124] (by omega) (by decide)
        have c2 : ∀ W, (Op.stringOp .add ⟨y1.toArray⟩ ⟨(Lib.itoa ((s.size : Int) - (p3 : Int))).toArray⟩).run Tryd.prog W = .ok (.string ⟨y2.toArray⟩) W := fun W => by rw [hy2]; exact run_string_add_lists W y1 _ (by omega) (by omega)
        have c3 : ∀ W, (Op.stringOp .add ⟨y2.toArray⟩ ⟨#[32]⟩).run Tryd.prog W = .ok (.string ⟨y3.toArray⟩) W := fun W => by rw [hy3]; exact run_string_add_lists W y2 [32] (by omega) (by decide)
        have c4 : ∀ W, (Op.stringOp .add ⟨y3.toArray⟩ ⟨(Lib.itoa ((off : Int) + (p3 : Int))).toArray⟩).run Tryd.prog W = .ok (.string ⟨y4.toArray⟩) W := fun W => by rw [hy4]; exact run_string_add_lists W y3 _ (by omega) (by omega)
        have HY : Hid (y4 = got ++ [124] ++ Lib.itoa ((s.size : Int) - (p3 : Int)) ++ [32] ++ Lib.itoa ((off : Int) + (p3 : Int))) := by show _ = _; rw [hy4, hy3, hy2, hy1]
        clear hle3 hlen3 hok hy1 hy2 hy3 hy4 z1 z2 z3
        obtain ⟨i0, hi0, hz0, hz1', hz2⟩ := info_parts Tryd.info9
        go_wp2
        go_region_held3 (fun w' => w'.cell? ⟨B, 0, none⟩ = some (.string s) ∧ w'.cell? ⟨B + 1, 0, none⟩ = some (.int .i64 off) ∧ w'.cell? ⟨B + 1 + 1 + 1, 0, none⟩ = some (.int .i64 p3))
          (first
            | exact ⟨r8.kb, r8.ko, r8.ka⟩
            | exact ⟨r7.kb, r7.ko, r7.ka⟩
            | exact ⟨r6.kb, r6.ko, r6.ka⟩
            | exact ⟨r5.kb, r5.ko, r5.ka⟩
            | exact ⟨k0, k1, k2⟩)
          (first
            | (go_at_call 16; (with_reducible refine (itoa_any ((s.size : Int) - (p3 : Int)) _ ?_ ?_ ?_).mono ?_); exact hTd; omega; omega; rintro e w5 ⟨rfl, b5⟩; have r5 := r3d.below b5)
            | (go_at_call 16; (with_reducible refine (itoa_any ((off : Int) + (p3 : Int)) _ ?_ ?_ ?_).mono ?_); exact hTd.below b5; omega; omega; rintro e w6 ⟨rfl, b6⟩; have r6 := r5.below b6; have r7 := r6.below ((Below.refl _ _).alloc (Nat.le_refl _) (.cells #[.string ⟨y4.toArray⟩] 9)); have own6 : w6.ownsRow (D + 1) 9 1 u6 k ((List.range k).map fun j => Value.string ⟨(lineN s.data.toList off l j).toArray⟩) := owns_keep (World.ownsRow.drew own3) ((keep_below (c := B) (a := B) b5).trans (keep_below b6)) (by omega) (by omega); have sz6 : D + 1 ≤ w6.heap.size := Nat.le_trans (Nat.le_trans sz3 b5.size) b6.size)
            | (refine step_append_lies _ (by rfl) _ _ _ (by rfl) (D + 1) 9 i0 _ 1 16 Tryd.underlying36 hi0 hz0 hz1' hz2 rfl (by omega) u6 k _ (by rfl) (own6.alloc _) ⟨w6.heap.size, 0, none⟩ 1 1 [.string ⟨y4.toArray⟩] (by rfl) (by rfl) (World.news_of_block (cs := #[.string ⟨y4.toArray⟩]) (t := 9) (fr := (0, 0)) (heap_alloc_new w6 _)) (by simp [Value.oneCell']) (by omega) (by unfold maxLen; omega) (by omega) (by simp; omega) (w6.heap.size + 1) (by simp) ?_; intro gg cap w8 hown8 hgrow8 hat8 hlt8; have hne8 : ∀ g, u6.ownBlock = some g → B ≠ g ∧ B + 1 ≠ g ∧ B + 1 + 1 ≠ g ∧ B + 1 + 1 + 1 ≠ g ∧ D ≠ g := fun g hg => by have := (own6.lt g hg).1; omega
               have r8 := r7.grown hgrow8 hne8))
        have bel6 : Below B w w6 := bel3.drew.trans ((b5.mono (show B ≤ wc.heap.size by omega)).trans (b6.mono (show B ≤ w5.heap.size from Nat.le_trans (show B ≤ wc.heap.size by omega) b5.size)))
        have bel8 : Below B w w8 := (bel6.alloc (by omega) (.cells #[.string ⟨y4.toArray⟩] 9)).grown hgrow8 (by simp; omega) (fun g hg => by have := (own6.lt g hg).1; omega)
        have sz8 : D + 1 ≤ w8.heap.size := by have := hgrow8.size; simp at this; omega
        have HL8 : Hid ((List.range (k + 1)).map (fun j => Value.string ⟨(lineN s.data.toList off l j).toArray⟩) = (List.range k).map (fun j => Value.string ⟨(lineN s.data.toList off l j).toArray⟩) ++ [Value.string ⟨y4.toArray⟩]) := by
          show _ = _
          have e1 : lineN s.data.toList off l k = y4 := by
            rw [HLN.out, HY.out]
            show got ++ [124] ++ Lib.itoa ((s.data.toList.length : Int) - (p3 : Int)) ++ [32] ++ Lib.itoa ((off : Int) + (p3 : Int)) = _
            rw [Array.length_toList]
            rfl
          rw [List.range_succ, List.map_append, List.map_singleton, e1]
        clear r7 hgrow8 own6 own3 r3 r3d r5 r6 b5 b6 bel3 bel6 c1 c2 c3 c4 hne8
        go_wp2
        go_roundw
        case rel => exact ⟨k + 1, by omega, by go_num, by rw [HL8.out]; exact hown8, by rw [HST.out]; exact r8, bel8, sz8⟩
        case measure => simp [intOf]; omega
    · obtain rfl : k = l.length := by omega
      have c0 : wr.cell? ⟨B + 1 + 1, 0, none⟩ = some (.int .i64 (stN s.data.toList off l l.length).2.1) := hrs.hc.c0
      have c1 : wr.cell? ⟨B + 1 + 1, 1, none⟩ = some (.int .i64 (stN s.data.toList off l l.length).2.2) := hrs.hc.c1
      have z0 := hrs.hc.fz 0
      have z1 := hrs.hc.fz 1
      have HN := Lib.hid hrs.hc
      obtain ⟨st, hst⟩ : ∃ st, st = stN s.data.toList off l l.length := ⟨_, rfl⟩
      rw [← hst] at hrs c0 c1 HN
      have HST0 := Lib.hid hst
      clear hR hst
      go_wp2
      go_region
      go_wp2
      have n9 : Nt ((wr.setCell ⟨B + 1 + 1, 0, none⟩ (.int .i64 st.2.1)).setCell ⟨B + 1 + 1, 1, none⟩ (.int .i64 st.2.2)) (B + 1 + 1) st.2.1 st.2.2 := HN.out.set2 _ _
      have q0 : (((wr.setCell ⟨B + 1 + 1, 0, none⟩ (.int .i64 st.2.1)).setCell ⟨B + 1 + 1, 1, none⟩ (.int .i64 st.2.2)).drew).cell? ⟨B + 1 + 1, 0, none⟩ = some (.int .i64 st.2.1) := n9.c0
      have q1 : (((wr.setCell ⟨B + 1 + 1, 0, none⟩ (.int .i64 st.2.1)).setCell ⟨B + 1 + 1, 1, none⟩ (.int .i64 st.2.2)).drew).cell? ⟨B + 1 + 1, 1, none⟩ = some (.int .i64 st.2.2) := n9.c1
      have own9 := ownsRow_setCell_below (ownsRow_setCell_below hown (a := ⟨B + 1 + 1, 0, none⟩) (by show B + 1 + 1 < D + 1; omega) (.int .i64 st.2.1)) (a := ⟨B + 1 + 1, 1, none⟩) (by show B + 1 + 1 < D + 1; omega) (.int .i64 st.2.2)
      have bel9 := ((hbel.setCell (p := ⟨B + 1 + 1, 0, none⟩) (by show B ≤ B + 1 + 1; omega) (.int .i64 st.2.1)).setCell (p := ⟨B + 1 + 1, 1, none⟩) (by show B ≤ B + 1 + 1; omega) (.int .i64 st.2.2)).drew
      have bel9 := bel9.mono (show w.heap.size ≤ B by have := HB.out; omega)
      exact bodyPost_ret (v := .tuple #[u6, .agg #[.int .i64 st.2.1, .int .i64 st.2.2]]) (by simp [results, Tryd.results14, go_sem, q0, q1]) rfl ⟨u6, D + 1, by rw [HST0.out], by have := HB.out; omega, own9.drew, bel9⟩
end Go.Proofs.YtiikdmempgmlnaaDoor
