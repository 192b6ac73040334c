/- switchyardkeep.LacpFree returns true at everything that both sides may know, at every place and byte, and changes nothing that was there. -/
import Derived.Test.YtocgnbbnaamjjaaDoorLinked
import Derived.Test.YtocgnbbnaamjjaaDoorNiS
import Derived.Test.YtocgnbbnaamjjaaDoorLow
import Derived.Test.YtocgnbbnaamjjaaDoorBe2
import Derived.Test.YtocgnbbnaamjjaaDoorStOp
namespace Go.Proofs.YtocgnbbnaamjjaaDoor.lacpFree
open Go.RowKit
attribute [local go_sem ↓] Go.wp_at_zero Go.wp_at_succ
set_option linter.unusedSimpArgs false
set_option linter.unusedVariables false
set_option maxRecDepth 100000

theorem one_blk {W : World} {B : Nat} {T : TypeId} {b : UInt8} (H : Blk W B T #[.int .u8 (b.toNat : Int)]) :
    (convert 50 9 (.slice (some ⟨B, 0, none⟩) 1 1)).run Tryd.prog W = .ok (.string ⟨#[b]⟩) W :=
  run_convert_bytes_back (P := Tryd.prog) W 50 9 5 ⟨B, 0, none⟩ 1 [b] Tryd.underlying50 Tryd.underlying5 Tryd.underlying9 (fun j hj => by
    have hj0 : j = 0 := by simp at hj; exact hj
    subst hj0
    rw [Addr.add_lit]
    exact H.cv 0 (.int .u8 (b.toNat : Int)) rfl)

theorem wp_alloc_op {P : Program} {o : Oper} {a : Act} {w : World} {K : Act → World → Prop} {Q : Exit → Act → World → Prop} (t : TypeId) (Z : Array Value) (ho : o.op = .alloc t) (hz : (P.info? t).map (·.zero) = some (some (.agg Z)))
    (hK : ∀ b w', b = w.heap.size → Blk w' b t Z → Below b w w' → K (a.put o.dst (.pointer (some ⟨b, 0, none⟩))) w') : Oper.wp P o a w K Q := by
  have h1 : (Instr.alloc t true (.tuple #[])).run P w = .ok (.pointer (some ⟨w.heap.size, 0, none⟩)) (w.alloc (.cells Z t)) := by
    cases hi : P.info? t with
    | none => rw [hi] at hz; cases hz
    | some i =>
      rw [hi] at hz
      simp only [Option.map_some, Option.some.injEq] at hz
      simp [Instr.alloc, zeroValue, typeInfo, hi, hz, newVar, newRow, newObj, Value.cells]
      rfl
  unfold Oper.wp execOp
  simp only [ho, Sem.run_bind, Sem.run_pure, Result.andThen_ok, h1]
  exact hK _ _ rfl (Blk.new w t Z) ((Below.refl _ _).alloc (Nat.le_refl _) _)

theorem set_parts (L : List UInt8) (k : Nat) (b : UInt8) (h : k < L.length) : L.set k b = (L.take k ++ [b]) ++ L.drop (k + 1) := by
  rw [List.set_eq_take_append_cons_drop, if_pos h, List.append_assoc]
  rfl

def FreeAt (w : World) (C : Array Value) (G lo hi off : Nat) (v i : Value) (wr : World) : Prop := ∃ (k : Nat) (l2 : List Nat), lo ≤ k ∧ k ≤ hi ∧ i = .int .i64 k ∧ OwnNat wr G v l2 ∧ l2.length = k - off ∧ (∀ x ∈ l2, freeK x) ∧ Blk wr w.heap.size 27 C ∧ Below w.heap.size w wr ∧ G ≤ wr.heap.size

theorem own_first {w w1 : World} {G : Nat} (h : w1 = w.alloc (.cells #[.int .i64 19, .int .i64 20, .int .i64 21, .int .i64 39, .int .i64 40, .int .i64 41] 3)) (hG : G = w.heap.size) : OwnNat w1 G (.slice (some ⟨G, 0, none⟩) 6 6) [19, 20, 21, 39, 40, 41] := by
  subst h hG
  refine Or.inr ⟨by simp, w.heap.size, 6, rfl, ?_⟩
  exact World.ownsRow_lit (size := 1) (base := w.heap.size) (e := 3) w #[.int .i64 19, .int .i64 20, .int .i64 21, .int .i64 39, .int .i64 40, .int .i64 41] 6 (Nat.le_refl _) (by unfold maxLen; omega) rfl

theorem free_first : ∀ x ∈ [19, 20, 21, 39, 40, 41], freeK x := by
  intro x hx
  unfold freeK
  simp only [List.mem_cons, List.not_mem_nil, or_false] at hx
  omega

theorem free_snoc {l : List Nat} {k : Nat} (h : ∀ x ∈ l, freeK x) (hk : (46 ≤ k ∧ k < 58) ∨ (60 ≤ k ∧ k < 110)) : ∀ x ∈ l ++ [k], freeK x := by
  intro x hx
  rcases List.mem_append.1 hx with hx | hx
  · exact h x hx
  · obtain rfl := List.mem_singleton.1 hx
    unfold freeK
    omega

set_option maxHeartbeats 12800000 in
theorem walk (l : Lc) (hb : byLc l) (hr : rgLc l) (pl : Int) (c : Nat) (hc : c < 256) (w : World) :
    Calls Tryd.prog 7 #[.agg (lcC l), .int .i64 pl, .int .u8 c] w fun e w' => e = .returned (.bool true) ∧ Below w.heap.size w w' := by
  have hnn : ∀ w : World, (binOp BinOp.eql 32 .nilIface .nilIface).run Tryd.prog w = .ok (.bool true) w := fun _ => by kernel_rfl
  have hn2 : ∀ w : World, (binOp BinOp.neq 32 .nilIface .nilIface).run Tryd.prog w = .ok (.bool false) w := fun _ => by kernel_rfl
  have hn3 : ∀ w : World, (binOp BinOp.neq 32 (.iface 28 (.int .i64 1)) .nilIface).run Tryd.prog w = .ok (.bool true) w := fun _ => by kernel_rfl
  have HA := Blk.new w 27 (lcC l)
  have B0 : Below w.heap.size w (w.alloc (.cells (lcC l) 27)) := (Below.refl _ _).alloc (Nat.le_refl _) _
  cases hok : okLc l with
  | false =>
    have HW := Lib.hid (fun W => lcWrite_no l hok hr W)
    clear hok hb hr
    go_enter Tryd.func7, Tryd.ntmps7
    go_upto_region 1 with (fail)
    generalize (w.alloc (.cells (lcC l) 27)) = w1 at *
    go_wp2_with fail
    refine (linked_any _).mono ?_
    rintro e w2 ⟨rfl, k2⟩
    have HA2 := HA.kept k2
    have B2 := B0.trans (k2.mono B0.size)
    clear HA B0 k2
    go_wp2_with (refine load_blk (k := 0) 27 (lcC l) (by rfl) rfl rfl HA2 (by kernel_rfl) (by kernel_rfl) rfl ?_)
    refine (HW.out _).mono ?_
    rintro e w3 ⟨rfl, k3⟩
    have HA3 := HA2.kept k3
    have B3 := B2.trans (k3.mono B2.size)
    clear HA2 B2 k3
    go_wp2
    go_ret
    exact ⟨rfl, B3⟩
  | true =>
    have HW := Lib.hid (fun W => lcWrite_yes l hok hb hr W)
    have l1 := lcL_len l
    obtain ⟨b, hbv⟩ : ∃ b : UInt8, b = UInt8.ofNat c := ⟨_, rfl⟩
    have hbc : (c : Int) = ((b.toNat : Nat) : Int) := by rw [hbv, UInt8.toNat_ofNat']; omega
    have HRd : Hid (∀ k, freeK k → ∀ W, Calls Tryd.prog 21 #[.string ⟨((lcL l).set k b).toArray⟩] W fun e w' => e = .returned (.tuple #[.agg (lcC l), .nilIface]) ∧ Below W.heap.size W w') := fun k hk W => by
      obtain ⟨q1, q2⟩ := lc_free l hok hb b hk
      have q := lcRead_ok ⟨((lcL l).set k b).toArray⟩ W (by show ((lcL l).set k b).toArray.size ≤ _; rw [List.size_toArray, List.length_set, l1]; decide) q1
      rw [show (⟨((lcL l).set k b).toArray⟩ : ByteArray).data.toList = (lcL l).set k b from rfl, lcC_congr q2] at q
      exact q
    have HQ := Lib.hid (run_eqv_lc l l (eqvLc.refl _))
    obtain ⟨L, hL⟩ : ∃ L, L = lcL l := ⟨_, rfl⟩
    rw [← hL] at HW l1 HRd
    obtain ⟨s1, hs1⟩ : ∃ s : ByteArray, s = ⟨L.toArray⟩ := ⟨_, rfl⟩
    rw [← hs1] at HW
    have z1 : s1.size = 110 := by rw [hs1]; show L.toArray.size = _; rw [List.size_toArray, l1]
    have d1 : ((s1.size : Int) != 110) = false := by rw [z1]; rfl
    have HSET : Hid (∀ k, k < 110 → L.set k b = (L.take k ++ [b]) ++ L.drop (k + 1)) := fun k hk => set_parts L k b (by omega)
    have ex : ∀ i j : Nat, s1.extract i j = ⟨((L.drop i).take (j - i)).toArray⟩ := fun i j => by
      apply ByteArray.ext
      apply Array.toList_inj.1
      rw [extract_list, hs1]
    have HE1 : Hid (∀ k, s1.extract 0 k = ⟨(L.take k).toArray⟩) := fun k => ex 0 k
    have HE2 : Hid (∀ k, s1.extract k 110 = ⟨(L.drop k).toArray⟩) := fun k => by rw [ex k 110, List.take_of_length_le (by rw [List.length_drop, l1]; omega)]
    have HLL := Lib.hid l1
    rw [hbc]
    clear hL hs1 ex l1 hok hb hr hbv hbc
    have hb8 := b.toNat_lt
    go_enter Tryd.func7, Tryd.ntmps7
    go_upto_region 1 with (fail)
    generalize (w.alloc (.cells (lcC l) 27)) = w1 at *
    go_wp2_with fail
    refine (linked_any _).mono ?_
    rintro e w2 ⟨rfl, k2⟩
    have HA2 := HA.kept k2
    have B2 := B0.trans (k2.mono B0.size)
    clear HA B0 k2
    go_wp2_with (refine load_blk (k := 0) 27 (lcC l) (by rfl) rfl rfl HA2 (by kernel_rfl) (by kernel_rfl) rfl ?_)
    refine (HW.out _).mono ?_
    rintro e w3 ⟨rfl, k3⟩
    have HA3 := HA2.kept k3
    have B3 := B2.trans (k3.mono B2.size)
    clear HA2 B2 k3
    have hA3 : w.heap.size < w3.heap.size := HA3.lt
    go_upto_region 8 with (fail)
    have HO4 := own_first (w := w3) rfl rfl
    have HA4 := HA3.alloc (.cells #[.int .i64 19, .int .i64 20, .int .i64 21, .int .i64 39, .int .i64 40, .int .i64 41] 3)
    have B4 := B3.alloc B3.size (.cells #[.int .i64 19, .int .i64 20, .int .i64 21, .int .i64 39, .int .i64 40, .int .i64 41] 3)
    have hs4 : w3.heap.size ≤ (w3.alloc (.cells #[.int .i64 19, .int .i64 20, .int .i64 21, .int .i64 39, .int .i64 40, .int .i64 41] 3)).heap.size := by simp
    generalize w3.alloc (.cells #[.int .i64 19, .int .i64 20, .int .i64 21, .int .i64 39, .int .i64 40, .int .i64 41] 3) = w4 at *
    clear HA3 B3
    generalize w3.heap.size = G at *
    go_loopw [9, 10] (fun v i wr => FreeAt w (lcC l) G 46 58 40 v i wr) (fun _ i _ => 58 - (intOf i).toNat)
    case atStart => exact ⟨46, _, by omega, by omega, rfl, HO4, rfl, free_first, HA4, B4, hs4⟩
    case round =>
      clear HO4 HA4 B4 hs4
      obtain ⟨k, l2, hk0, hk, rfl, HOr, hln, hfr, HAr, Br, hsr⟩ := hrel
      by_cases hlt : k < 58
      · have q1 : decide ((k : Int) < 58) = true := decide_eq_true (by omega)
        have q2 : decide (k < 58) = true := decide_eq_true (by omega)
        have hfr2 := Lib.hid (free_snoc hfr (Or.inl ⟨hk0, hlt⟩))
        have hll : (l2 ++ [k]).length = l2.length + 1 := by simp
        have HLN : Hid ((l2 ++ [k]).length = k + 1 - 40) := by show _ = _; rw [hll]; omega
        clear hll
        go_wp2_with (first
          | (refine sliceL_ni k rfl rfl rfl ?_; intro w7 HG7 b7 s7; have HO7 := HOr.kept b7; have HA7 := HAr.kept b7; have B7 := Br.trans (b7.mono Br.size); have hs7 := b7.size)
          | (refine appendL_ni k rfl rfl rfl rfl HO7 HG7 (by omega) (by omega) ?_; intro v8 w8 HO8 b8 g8; have HA8 := HA7.below b8 (by omega); have B8 := B7.trans (b8.mono (by omega)); have hs8 := b8.size))
        go_roundw
        case rel => exact ⟨k + 1, _, by omega, by omega, by go_num, HO8, HLN.out, hfr2.out, HA8, B8, by omega⟩
        case measure => simp [intOf]; omega
      · obtain rfl : k = 58 := by omega
        have hlt2 : l2.length = 18 := by omega
        clear hln hk0 hk hlt
        generalize wr = wo at *
        go_wp2_with fail
        go_loopw [9, 11] (fun v i wz => FreeAt w (lcC l) G 60 110 42 v i wz) (fun _ i _ => 110 - (intOf i).toNat)
        case atStart => exact ⟨60, _, by omega, by omega, rfl, HOr, by omega, hfr, HAr, Br, hsr⟩
        case round =>
          clear HOr HAr Br hsr hfr hlt2
          obtain ⟨k, l3, hk0, hk, rfl, HOr, hln, hfr, HAr, Br, hsr⟩ := hrel
          by_cases hlt : k < 110
          · have q1 : decide ((k : Int) < 110) = true := decide_eq_true (by omega)
            have q2 : decide (k < 110) = true := decide_eq_true (by omega)
            have hfr2 := Lib.hid (free_snoc hfr (Or.inr ⟨hk0, hlt⟩))
            have hll : (l3 ++ [k]).length = l3.length + 1 := by simp
            have HLN : Hid ((l3 ++ [k]).length = k + 1 - 42) := by show _ = _; rw [hll]; omega
            clear hll
            go_wp2_with (first
              | (refine sliceL_ni k rfl rfl rfl ?_; intro w7 HG7 b7 s7; have HO7 := HOr.kept b7; have HA7 := HAr.kept b7; have B7 := Br.trans (b7.mono Br.size); have hs7 := b7.size)
              | (refine appendL_ni k rfl rfl rfl rfl HO7 HG7 (by omega) (by omega) ?_; intro v8 w8 HO8 b8 g8; have HA8 := HA7.below b8 (by omega); have B8 := B7.trans (b8.mono (by omega)); have hs8 := b8.size))
            go_roundw
            case rel => exact ⟨k + 1, _, by omega, by omega, by go_num, HO8, HLN.out, hfr2.out, HA8, B8, by omega⟩
            case measure => simp [intOf]; omega
          · obtain rfl : k = 110 := by omega
            obtain ⟨a3, c3, rfl, HI⟩ := HOr.inL
            have hl68 : l3.length = 68 := by omega
            clear hln hk0 hk hlt HOr
            go_wp2_with fail
            refine (pick_any pl 68 wr (by omega) (by omega)).mono ?_
            rintro e w9 ⟨r, rfl, hr68, rfl⟩
            have hr : r < l3.length := by omega
            obtain ⟨b3, o3, rfl, hb3, hat⟩ := HI.at hr
            have cI := hat r hr 0 (.int .i64 (l3[r] : Nat)) rfl
            rw [Nat.mul_one, Nat.add_zero] at cI
            have hfk := hfr l3[r] (List.getElem_mem hr)
            have hx110 : l3[r] < 110 := by unfold freeK at hfk; omega
            have HFK := Lib.hid hfk
            have i1 : (0 : Int) ≤ (r : Int) := by omega
            have i2 : (r : Int) < (l3.length : Int) := by omega
            clear hfr hfk hat HI
            generalize l3[r] = x at *
            go_wp2_with fail
            have HX110 := Lib.hid hx110
            have HWX : Hid (IntKind.i64.wrap ((x : Int) + 1) = (x : Int) + 1) := by show _ = _; rw [IntKind.wrap_i64] <;> omega
            have HLS : Hid (s1.extract 0 x ++ ⟨#[b]⟩ ++ s1.extract (x + 1) 110 = ⟨(L.set x b).toArray⟩) := by
              show _ = _
              rw [HE1.out, HE2.out, HSET.out x hx110]
              apply ByteArray.ext
              simp [ByteArray.data_append]
            have HA := HAr
            have BB := Br
            clear hx110 HAr Br
            refine wp_region_noPanic ?_
            refine wp_region_held_drew (S := (fun _ => True)) (by kernel_rfl) ?_ (fun hHeld => ?_)
            · exact trivial
            refine wpAnyH_take (i := 0) (v := ?_) rfl (by kernel_rfl) (by kernel_rfl) (by kernel_rfl) (fun _ _ _ h => h) (Or.inl ⟨by rfl, ?_⟩) (by assumption) ?_
            rotate_left
            · (intro w hSw; (try dsimp only at hSw); go_simp; (try with_reducible rfl))
            (try simp only [Act.put, List.getElem_toArray, List.getElem_cons_zero, List.getElem_cons_succ, List.setIfInBounds_toArray, List.set_cons_zero, List.set_cons_succ])
            refine wpAnyH_take (i := 1) (v := ?_) rfl (by kernel_rfl) (by kernel_rfl) (by kernel_rfl) (fun _ _ _ h => h) (Or.inl ⟨by rfl, ?_⟩) (by assumption) ?_
            rotate_left
            · (intro w hSw; (try dsimp only at hSw); go_simp; (try with_reducible rfl))
            (try simp only [Act.put, List.getElem_toArray, List.getElem_cons_zero, List.getElem_cons_succ, List.setIfInBounds_toArray, List.set_cons_zero, List.set_cons_succ])
            refine wpAnyH_take (i := 2) (v := .string (s1.extract 0 x)) rfl (by kernel_rfl) (by kernel_rfl) (by kernel_rfl) (fun _ _ _ h => h) (Or.inl ⟨by rfl, fun w hSw => by (go_simp; intro hh; exact absurd hh (by have := HX110.out; omega))⟩) (by assumption) ?_
            (try simp only [Act.put, List.getElem_toArray, List.getElem_cons_zero, List.getElem_cons_succ, List.setIfInBounds_toArray, List.set_cons_zero, List.set_cons_succ])
            refine wpAnyH_take (i := 3) (v := ?_) rfl (by kernel_rfl) (by kernel_rfl) (by kernel_rfl) (fun _ _ _ h => h) (Or.inl ⟨by rfl, ?_⟩) (by assumption) ?_
            rotate_left
            · (intro w hSw; (try dsimp only at hSw); go_simp; (try with_reducible rfl))
            (try simp only [Act.put, List.getElem_toArray, List.getElem_cons_zero, List.getElem_cons_succ, List.setIfInBounds_toArray, List.set_cons_zero, List.set_cons_succ])
            refine wpAnyH_take (i := 7) (v := ?_) rfl (by kernel_rfl) (by kernel_rfl) (by kernel_rfl) (fun _ _ _ h => h) (Or.inl ⟨by rfl, ?_⟩) (by assumption) ?_
            rotate_left
            · (intro w hSw; (try dsimp only at hSw); go_simp; (try with_reducible rfl))
            (try simp only [Act.put, List.getElem_toArray, List.getElem_cons_zero, List.getElem_cons_succ, List.setIfInBounds_toArray, List.set_cons_zero, List.set_cons_succ])
            refine wpAnyH_take (i := 8) (v := ?_) rfl (by kernel_rfl) (by kernel_rfl) (by kernel_rfl) (fun _ _ _ h => h) (Or.inl ⟨by rfl, ?_⟩) (by assumption) ?_
            rotate_left
            · (intro w hSw; (try dsimp only at hSw); go_simp; (try with_reducible rfl))
            (try simp only [Act.put, List.getElem_toArray, List.getElem_cons_zero, List.getElem_cons_succ, List.setIfInBounds_toArray, List.set_cons_zero, List.set_cons_succ])
            refine wpAnyH_take (i := 9) (v := .int .i64 ((x : Int) + 1)) rfl (by kernel_rfl) (by kernel_rfl) (by kernel_rfl) (fun _ _ _ h => h) (Or.inl ⟨by rfl, fun w hSw => by (go_simp; rw [HWX.out])⟩) (by assumption) ?_
            (try simp only [Act.put, List.getElem_toArray, List.getElem_cons_zero, List.getElem_cons_succ, List.setIfInBounds_toArray, List.set_cons_zero, List.set_cons_succ])
            refine wpAnyH_take (i := 10) (v := .string (s1.extract (x + 1) 110)) rfl (by kernel_rfl) (by kernel_rfl) (by kernel_rfl) (fun _ _ _ h => h) (Or.inl ⟨by rfl, fun w hSw => by (go_simp; intro hh; exact absurd (hh (by omega)) (by have := HX110.out; omega))⟩) (by assumption) ?_
            (try simp only [Act.put, List.getElem_toArray, List.getElem_cons_zero, List.getElem_cons_succ, List.setIfInBounds_toArray, List.set_cons_zero, List.set_cons_succ])
            refine wpAnyH_ready (rs := [4, 16]) (by kernel_rfl) (by simp) ?_
            refine AllReadyH.cons rfl (fun K hK => ?_) (AllReadyH.cons rfl (fun K hK => ?_) AllReadyH.nil)
            · simp only [List.getElem_toArray, List.getElem_cons_zero, List.getElem_cons_succ]
              go_simp
              have HC := (Blk.new _ 5 #[.int .u8 (b.toNat : Int)] : Blk (wr.alloc (.cells #[.int .u8 (b.toNat : Int)] 5)) _ _ _).drew
              replace HA := (HA.alloc (.cells #[.int .u8 (b.toNat : Int)] 5)).drew
              replace BB := (BB.alloc BB.size (.cells #[.int .u8 (b.toNat : Int)] 5)).drew
              refine hK.out _ _ ?_ (fun hHeld => ?_)
              · exact trivial
              clear hK K
              (try simp only [Act.put, List.getElem_toArray, List.getElem_cons_zero, List.getElem_cons_succ, List.setIfInBounds_toArray, List.set_cons_zero, List.set_cons_succ])
              refine wpAnyH_ready (rs := [5, 16]) (by kernel_rfl) (by simp) ?_
              refine AllReadyH.cons rfl (fun K hK => ?_) (AllReadyH.cons rfl (fun K hK => ?_) AllReadyH.nil)
              · simp only [List.getElem_toArray, List.getElem_cons_zero, List.getElem_cons_succ]
                go_simp
                rw [one_blk HC]
                go_simp
                refine hK.out _ _ ?_ (fun hHeld => ?_)
                · exact trivial
                clear hK K
                (try simp only [Act.put, List.getElem_toArray, List.getElem_cons_zero, List.getElem_cons_succ, List.setIfInBounds_toArray, List.set_cons_zero, List.set_cons_succ])
                refine wpAnyH_take (i := 6) (v := .string (s1.extract 0 x ++ ⟨#[b]⟩)) rfl (by kernel_rfl) (by kernel_rfl) (by kernel_rfl) (fun _ _ _ h => h) (Or.inl ⟨by rfl, fun w hSw => by (go_simp; omega)⟩) (by assumption) ?_
                (try simp only [Act.put, List.getElem_toArray, List.getElem_cons_zero, List.getElem_cons_succ, List.setIfInBounds_toArray, List.set_cons_zero, List.set_cons_succ])
                refine wpAnyH_take (i := 11) (v := .string ⟨(L.set x b).toArray⟩) rfl (by kernel_rfl) (by kernel_rfl) (by kernel_rfl) (fun _ _ _ h => h) (Or.inl ⟨by rfl, fun w hSw => by (go_simp; rw [if_neg (by have := HX110.out; omega), HLS.out])⟩) (by assumption) ?_
                (try simp only [Act.put, List.getElem_toArray, List.getElem_cons_zero, List.getElem_cons_succ, List.setIfInBounds_toArray, List.set_cons_zero, List.set_cons_succ])
                refine wpAnyH_ready (rs := [12, 16]) (by kernel_rfl) (by simp) ?_
                refine AllReadyH.cons rfl (fun K hK => ?_) (AllReadyH.cons rfl (fun K hK => ?_) AllReadyH.nil)
                · simp only [List.getElem_toArray, List.getElem_cons_zero, List.getElem_cons_succ]
                  go_simp
                  go_at_call 21; (with_reducible refine (HRd.out x HFK.out _).mono ?_); rintro e w12 ⟨rfl, k12⟩
                  replace HA := HA.kept k12
                  replace BB := BB.trans (k12.mono BB.size)
                  clear k12
                  refine hK.out _ _ ?_ (fun hHeld => ?_)
                  · exact trivial
                  clear hK K
                  (try simp only [Act.put, List.getElem_toArray, List.getElem_cons_zero, List.getElem_cons_succ, List.setIfInBounds_toArray, List.set_cons_zero, List.set_cons_succ])
                  refine wpAnyH_take (i := 13) (v := ?_) rfl (by kernel_rfl) (by kernel_rfl) (by kernel_rfl) (fun _ _ _ h => h) (Or.inl ⟨by rfl, ?_⟩) (by assumption) ?_
                  rotate_left
                  · (intro w hSw; (try dsimp only at hSw); go_simp; (try with_reducible rfl))
                  (try simp only [Act.put, List.getElem_toArray, List.getElem_cons_zero, List.getElem_cons_succ, List.setIfInBounds_toArray, List.set_cons_zero, List.set_cons_succ])
                  refine wpAnyH_take (i := 14) (v := ?_) rfl (by kernel_rfl) (by kernel_rfl) (by kernel_rfl) (fun _ _ _ h => h) (Or.inl ⟨by rfl, ?_⟩) (by assumption) ?_
                  rotate_left
                  · (intro w hSw; (try dsimp only at hSw); go_simp; (try with_reducible rfl))
                  (try simp only [Act.put, List.getElem_toArray, List.getElem_cons_zero, List.getElem_cons_succ, List.setIfInBounds_toArray, List.set_cons_zero, List.set_cons_succ])
                  refine wpAnyH_take (i := 15) (v := ?_) rfl (by kernel_rfl) (by kernel_rfl) (by kernel_rfl) (fun _ _ _ h => h) (Or.inl ⟨by rfl, ?_⟩) (by assumption) ?_
                  rotate_left
                  · (intro w hSw; (try dsimp only at hSw); go_simp; (try with_reducible rfl))
                  (try simp only [Act.put, List.getElem_toArray, List.getElem_cons_zero, List.getElem_cons_succ, List.setIfInBounds_toArray, List.set_cons_zero, List.set_cons_succ])
                  refine wpAnyH_ready (rs := [16]) (by kernel_rfl) (by simp) ?_
                  refine AllReadyH.cons rfl (fun K hK => ?_) AllReadyH.nil
                  simp only [List.getElem_toArray, List.getElem_cons_zero, List.getElem_cons_succ]
                  rw [if_pos (by rfl)]
                  refine wp_alloc_op 27 (lcC zLc) rfl Tryd.lcZero (fun b5 u1 e5 H5 n5 => ?_)
                  have n6 := n5
                  rw [e5] at n6
                  have h5 := HA.lt
                  rw [← e5] at h5
                  replace HA := HA.kept n6
                  replace BB := BB.trans (n6.mono BB.size)
                  clear n5 n6 e5
                  refine hK.out _ _ ?_ (fun hHeld => ?_)
                  · exact trivial
                  clear hK K
                  (try simp only [Act.put, List.getElem_toArray, List.getElem_cons_zero, List.getElem_cons_succ, List.setIfInBounds_toArray, List.set_cons_zero, List.set_cons_succ])
                  refine wpAnyH_ready (rs := [17]) (by kernel_rfl) (by simp) ?_
                  refine AllReadyH.cons rfl (fun K hK => ?_) AllReadyH.nil
                  simp only [List.getElem_toArray, List.getElem_cons_zero, List.getElem_cons_succ]
                  rw [if_pos (by rfl)]
                  refine wp_store_op (k := 0) 27 (.agg (lcC l)) (lcC l) (by rfl) rfl rfl H5 (by kernel_rfl) (show (23 : Nat) ≤ 23 from Nat.le_refl 23) (by rfl) (st_wholeL _ _ rfl) (fun u2 H6 b6 g6 => ?_)
                  replace HA := HA.grown g6 (by simp; omega)
                  replace BB := BB.trans (b6.mono (Nat.le_of_lt h5))
                  refine hK.out _ _ ?_ (fun hHeld => ?_)
                  · exact trivial
                  clear hK K
                  (try simp only [Act.put, List.getElem_toArray, List.getElem_cons_zero, List.getElem_cons_succ, List.setIfInBounds_toArray, List.set_cons_zero, List.set_cons_succ])
                  refine wpAnyH_take (i := 18) (v := ?_) rfl (by kernel_rfl) (by kernel_rfl) (by kernel_rfl) (fun _ _ _ h => h) (Or.inl ⟨by rfl, ?_⟩) (by assumption) ?_
                  rotate_left
                  · (intro w hSw; (try dsimp only at hSw); go_simp; (try with_reducible rfl))
                  (try simp only [Act.put, List.getElem_toArray, List.getElem_cons_zero, List.getElem_cons_succ, List.setIfInBounds_toArray, List.set_cons_zero, List.set_cons_succ])
                  refine wpAnyH_done (by kernel_rfl) ?_ _
                  refine NoPanic.normal ?_
                  go_wp2_with (first
                    | (first | (refine load_blk (k := 0) 27 (lcC l) (by rfl) rfl rfl H6 (by kernel_rfl) (by kernel_rfl) rfl ?_) | (refine load_blk (k := 0) 27 (lcC l) (by rfl) rfl rfl H6.drew (by kernel_rfl) (by kernel_rfl) rfl ?_))
                    | (first | (refine load_blk (k := 0) 27 (lcC l) (by rfl) rfl rfl HA (by kernel_rfl) (by kernel_rfl) rfl ?_) | (refine load_blk (k := 0) 27 (lcC l) (by rfl) rfl rfl HA.drew (by kernel_rfl) (by kernel_rfl) rfl ?_))
                    | (refine eq_blk .eql 27 (lcC l) (lcC l) true (by rfl) rfl (Or.inl rfl) rfl rfl (by kernel_rfl) (HQ.out _) ?_))
                  go_ret
                  exact ⟨rfl, BB⟩
                · simp only [List.getElem_toArray, List.getElem_cons_zero, List.getElem_cons_succ]
                  rw [if_pos (by rfl)]
                  refine wp_alloc_op 27 (lcC zLc) rfl Tryd.lcZero (fun b5 u1 e5 H5 n5 => ?_)
                  have n6 := n5
                  rw [e5] at n6
                  have h5 := HA.lt
                  rw [← e5] at h5
                  replace HA := HA.kept n6
                  replace BB := BB.trans (n6.mono BB.size)
                  clear n5 n6 e5
                  refine hK.out _ _ ?_ (fun hHeld => ?_)
                  · exact trivial
                  clear hK K
                  (try simp only [Act.put, List.getElem_toArray, List.getElem_cons_zero, List.getElem_cons_succ, List.setIfInBounds_toArray, List.set_cons_zero, List.set_cons_succ])
                  refine wpAnyH_ready (rs := [12]) (by kernel_rfl) (by simp) ?_
                  refine AllReadyH.cons rfl (fun K hK => ?_) AllReadyH.nil
                  simp only [List.getElem_toArray, List.getElem_cons_zero, List.getElem_cons_succ]
                  go_simp
                  go_at_call 21; (with_reducible refine (HRd.out x HFK.out _).mono ?_); rintro e w12 ⟨rfl, k12⟩
                  replace HA := HA.kept k12
                  replace H5 := H5.kept k12
                  replace BB := BB.trans (k12.mono BB.size)
                  clear k12
                  refine hK.out _ _ ?_ (fun hHeld => ?_)
                  · exact trivial
                  clear hK K
                  (try simp only [Act.put, List.getElem_toArray, List.getElem_cons_zero, List.getElem_cons_succ, List.setIfInBounds_toArray, List.set_cons_zero, List.set_cons_succ])
                  refine wpAnyH_take (i := 13) (v := ?_) rfl (by kernel_rfl) (by kernel_rfl) (by kernel_rfl) (fun _ _ _ h => h) (Or.inl ⟨by rfl, ?_⟩) (by assumption) ?_
                  rotate_left
                  · (intro w hSw; (try dsimp only at hSw); go_simp; (try with_reducible rfl))
                  (try simp only [Act.put, List.getElem_toArray, List.getElem_cons_zero, List.getElem_cons_succ, List.setIfInBounds_toArray, List.set_cons_zero, List.set_cons_succ])
                  refine wpAnyH_take (i := 14) (v := ?_) rfl (by kernel_rfl) (by kernel_rfl) (by kernel_rfl) (fun _ _ _ h => h) (Or.inl ⟨by rfl, ?_⟩) (by assumption) ?_
                  rotate_left
                  · (intro w hSw; (try dsimp only at hSw); go_simp; (try with_reducible rfl))
                  (try simp only [Act.put, List.getElem_toArray, List.getElem_cons_zero, List.getElem_cons_succ, List.setIfInBounds_toArray, List.set_cons_zero, List.set_cons_succ])
                  refine wpAnyH_take (i := 15) (v := ?_) rfl (by kernel_rfl) (by kernel_rfl) (by kernel_rfl) (fun _ _ _ h => h) (Or.inl ⟨by rfl, ?_⟩) (by assumption) ?_
                  rotate_left
                  · (intro w hSw; (try dsimp only at hSw); go_simp; (try with_reducible rfl))
                  (try simp only [Act.put, List.getElem_toArray, List.getElem_cons_zero, List.getElem_cons_succ, List.setIfInBounds_toArray, List.set_cons_zero, List.set_cons_succ])
                  refine wpAnyH_ready (rs := [17]) (by kernel_rfl) (by simp) ?_
                  refine AllReadyH.cons rfl (fun K hK => ?_) AllReadyH.nil
                  simp only [List.getElem_toArray, List.getElem_cons_zero, List.getElem_cons_succ]
                  rw [if_pos (by rfl)]
                  refine wp_store_op (k := 0) 27 (.agg (lcC l)) (lcC l) (by rfl) rfl rfl H5 (by kernel_rfl) (show (23 : Nat) ≤ 23 from Nat.le_refl 23) (by rfl) (st_wholeL _ _ rfl) (fun u2 H6 b6 g6 => ?_)
                  replace HA := HA.grown g6 (by simp; omega)
                  replace BB := BB.trans (b6.mono (Nat.le_of_lt h5))
                  refine hK.out _ _ ?_ (fun hHeld => ?_)
                  · exact trivial
                  clear hK K
                  (try simp only [Act.put, List.getElem_toArray, List.getElem_cons_zero, List.getElem_cons_succ, List.setIfInBounds_toArray, List.set_cons_zero, List.set_cons_succ])
                  refine wpAnyH_take (i := 18) (v := ?_) rfl (by kernel_rfl) (by kernel_rfl) (by kernel_rfl) (fun _ _ _ h => h) (Or.inl ⟨by rfl, ?_⟩) (by assumption) ?_
                  rotate_left
                  · (intro w hSw; (try dsimp only at hSw); go_simp; (try with_reducible rfl))
                  (try simp only [Act.put, List.getElem_toArray, List.getElem_cons_zero, List.getElem_cons_succ, List.setIfInBounds_toArray, List.set_cons_zero, List.set_cons_succ])
                  refine wpAnyH_done (by kernel_rfl) ?_ _
                  refine NoPanic.normal ?_
                  go_wp2_with (first
                    | (first | (refine load_blk (k := 0) 27 (lcC l) (by rfl) rfl rfl H6 (by kernel_rfl) (by kernel_rfl) rfl ?_) | (refine load_blk (k := 0) 27 (lcC l) (by rfl) rfl rfl H6.drew (by kernel_rfl) (by kernel_rfl) rfl ?_))
                    | (first | (refine load_blk (k := 0) 27 (lcC l) (by rfl) rfl rfl HA (by kernel_rfl) (by kernel_rfl) rfl ?_) | (refine load_blk (k := 0) 27 (lcC l) (by rfl) rfl rfl HA.drew (by kernel_rfl) (by kernel_rfl) rfl ?_))
                    | (refine eq_blk .eql 27 (lcC l) (lcC l) true (by rfl) rfl (Or.inl rfl) rfl rfl (by kernel_rfl) (HQ.out _) ?_))
                  go_ret
                  exact ⟨rfl, BB⟩
              · simp only [List.getElem_toArray, List.getElem_cons_zero, List.getElem_cons_succ]
                rw [if_pos (by rfl)]
                refine wp_alloc_op 27 (lcC zLc) rfl Tryd.lcZero (fun b5 u1 e5 H5 n5 => ?_)
                have n6 := n5
                rw [e5] at n6
                have h5 := HA.lt
                rw [← e5] at h5
                replace HA := HA.kept n6
                replace BB := BB.trans (n6.mono BB.size)
                replace HC := HC.kept n6
                clear n5 n6 e5
                refine hK.out _ _ ?_ (fun hHeld => ?_)
                · exact trivial
                clear hK K
                (try simp only [Act.put, List.getElem_toArray, List.getElem_cons_zero, List.getElem_cons_succ, List.setIfInBounds_toArray, List.set_cons_zero, List.set_cons_succ])
                refine wpAnyH_ready (rs := [5]) (by kernel_rfl) (by simp) ?_
                refine AllReadyH.cons rfl (fun K hK => ?_) AllReadyH.nil
                simp only [List.getElem_toArray, List.getElem_cons_zero, List.getElem_cons_succ]
                go_simp
                rw [one_blk HC]
                go_simp
                refine hK.out _ _ ?_ (fun hHeld => ?_)
                · exact trivial
                clear hK K
                (try simp only [Act.put, List.getElem_toArray, List.getElem_cons_zero, List.getElem_cons_succ, List.setIfInBounds_toArray, List.set_cons_zero, List.set_cons_succ])
                refine wpAnyH_take (i := 6) (v := .string (s1.extract 0 x ++ ⟨#[b]⟩)) rfl (by kernel_rfl) (by kernel_rfl) (by kernel_rfl) (fun _ _ _ h => h) (Or.inl ⟨by rfl, fun w hSw => by (go_simp; omega)⟩) (by assumption) ?_
                (try simp only [Act.put, List.getElem_toArray, List.getElem_cons_zero, List.getElem_cons_succ, List.setIfInBounds_toArray, List.set_cons_zero, List.set_cons_succ])
                refine wpAnyH_take (i := 11) (v := .string ⟨(L.set x b).toArray⟩) rfl (by kernel_rfl) (by kernel_rfl) (by kernel_rfl) (fun _ _ _ h => h) (Or.inl ⟨by rfl, fun w hSw => by (go_simp; rw [if_neg (by have := HX110.out; omega), HLS.out])⟩) (by assumption) ?_
                (try simp only [Act.put, List.getElem_toArray, List.getElem_cons_zero, List.getElem_cons_succ, List.setIfInBounds_toArray, List.set_cons_zero, List.set_cons_succ])
                refine wpAnyH_ready (rs := [12]) (by kernel_rfl) (by simp) ?_
                refine AllReadyH.cons rfl (fun K hK => ?_) AllReadyH.nil
                simp only [List.getElem_toArray, List.getElem_cons_zero, List.getElem_cons_succ]
                go_simp
                go_at_call 21; (with_reducible refine (HRd.out x HFK.out _).mono ?_); rintro e w12 ⟨rfl, k12⟩
                replace HA := HA.kept k12
                replace H5 := H5.kept k12
                replace BB := BB.trans (k12.mono BB.size)
                clear k12
                refine hK.out _ _ ?_ (fun hHeld => ?_)
                · exact trivial
                clear hK K
                (try simp only [Act.put, List.getElem_toArray, List.getElem_cons_zero, List.getElem_cons_succ, List.setIfInBounds_toArray, List.set_cons_zero, List.set_cons_succ])
                refine wpAnyH_take (i := 13) (v := ?_) rfl (by kernel_rfl) (by kernel_rfl) (by kernel_rfl) (fun _ _ _ h => h) (Or.inl ⟨by rfl, ?_⟩) (by assumption) ?_
                rotate_left
                · (intro w hSw; (try dsimp only at hSw); go_simp; (try with_reducible rfl))
                (try simp only [Act.put, List.getElem_toArray, List.getElem_cons_zero, List.getElem_cons_succ, List.setIfInBounds_toArray, List.set_cons_zero, List.set_cons_succ])
                refine wpAnyH_take (i := 14) (v := ?_) rfl (by kernel_rfl) (by kernel_rfl) (by kernel_rfl) (fun _ _ _ h => h) (Or.inl ⟨by rfl, ?_⟩) (by assumption) ?_
                rotate_left
                · (intro w hSw; (try dsimp only at hSw); go_simp; (try with_reducible rfl))
                (try simp only [Act.put, List.getElem_toArray, List.getElem_cons_zero, List.getElem_cons_succ, List.setIfInBounds_toArray, List.set_cons_zero, List.set_cons_succ])
                refine wpAnyH_take (i := 15) (v := ?_) rfl (by kernel_rfl) (by kernel_rfl) (by kernel_rfl) (fun _ _ _ h => h) (Or.inl ⟨by rfl, ?_⟩) (by assumption) ?_
                rotate_left
                · (intro w hSw; (try dsimp only at hSw); go_simp; (try with_reducible rfl))
                (try simp only [Act.put, List.getElem_toArray, List.getElem_cons_zero, List.getElem_cons_succ, List.setIfInBounds_toArray, List.set_cons_zero, List.set_cons_succ])
                refine wpAnyH_ready (rs := [17]) (by kernel_rfl) (by simp) ?_
                refine AllReadyH.cons rfl (fun K hK => ?_) AllReadyH.nil
                simp only [List.getElem_toArray, List.getElem_cons_zero, List.getElem_cons_succ]
                rw [if_pos (by rfl)]
                refine wp_store_op (k := 0) 27 (.agg (lcC l)) (lcC l) (by rfl) rfl rfl H5 (by kernel_rfl) (show (23 : Nat) ≤ 23 from Nat.le_refl 23) (by rfl) (st_wholeL _ _ rfl) (fun u2 H6 b6 g6 => ?_)
                replace HA := HA.grown g6 (by simp; omega)
                replace BB := BB.trans (b6.mono (Nat.le_of_lt h5))
                refine hK.out _ _ ?_ (fun hHeld => ?_)
                · exact trivial
                clear hK K
                (try simp only [Act.put, List.getElem_toArray, List.getElem_cons_zero, List.getElem_cons_succ, List.setIfInBounds_toArray, List.set_cons_zero, List.set_cons_succ])
                refine wpAnyH_take (i := 18) (v := ?_) rfl (by kernel_rfl) (by kernel_rfl) (by kernel_rfl) (fun _ _ _ h => h) (Or.inl ⟨by rfl, ?_⟩) (by assumption) ?_
                rotate_left
                · (intro w hSw; (try dsimp only at hSw); go_simp; (try with_reducible rfl))
                (try simp only [Act.put, List.getElem_toArray, List.getElem_cons_zero, List.getElem_cons_succ, List.setIfInBounds_toArray, List.set_cons_zero, List.set_cons_succ])
                refine wpAnyH_done (by kernel_rfl) ?_ _
                refine NoPanic.normal ?_
                go_wp2_with (first
                  | (first | (refine load_blk (k := 0) 27 (lcC l) (by rfl) rfl rfl H6 (by kernel_rfl) (by kernel_rfl) rfl ?_) | (refine load_blk (k := 0) 27 (lcC l) (by rfl) rfl rfl H6.drew (by kernel_rfl) (by kernel_rfl) rfl ?_))
                  | (first | (refine load_blk (k := 0) 27 (lcC l) (by rfl) rfl rfl HA (by kernel_rfl) (by kernel_rfl) rfl ?_) | (refine load_blk (k := 0) 27 (lcC l) (by rfl) rfl rfl HA.drew (by kernel_rfl) (by kernel_rfl) rfl ?_))
                  | (refine eq_blk .eql 27 (lcC l) (lcC l) true (by rfl) rfl (Or.inl rfl) rfl rfl (by kernel_rfl) (HQ.out _) ?_))
                go_ret
                exact ⟨rfl, BB⟩
            · simp only [List.getElem_toArray, List.getElem_cons_zero, List.getElem_cons_succ]
              rw [if_pos (by rfl)]
              refine wp_alloc_op 27 (lcC zLc) rfl Tryd.lcZero (fun b5 u1 e5 H5 n5 => ?_)
              have n6 := n5
              rw [e5] at n6
              have h5 := HA.drew.lt
              rw [← e5] at h5
              replace HA := HA.drew.kept n6
              replace BB := BB.drew.trans (n6.mono BB.drew.size)
              clear n5 n6 e5
              refine hK.out _ _ ?_ (fun hHeld => ?_)
              · exact trivial
              clear hK K
              (try simp only [Act.put, List.getElem_toArray, List.getElem_cons_zero, List.getElem_cons_succ, List.setIfInBounds_toArray, List.set_cons_zero, List.set_cons_succ])
              refine wpAnyH_ready (rs := [4]) (by kernel_rfl) (by simp) ?_
              refine AllReadyH.cons rfl (fun K hK => ?_) AllReadyH.nil
              simp only [List.getElem_toArray, List.getElem_cons_zero, List.getElem_cons_succ]
              go_simp
              have HC := (Blk.new _ 5 #[.int .u8 (b.toNat : Int)] : Blk (u1.alloc (.cells #[.int .u8 (b.toNat : Int)] 5)) _ _ _)
              replace HA := (HA.alloc (.cells #[.int .u8 (b.toNat : Int)] 5))
              replace H5 := (H5.alloc (.cells #[.int .u8 (b.toNat : Int)] 5))
              replace BB := (BB.alloc BB.size (.cells #[.int .u8 (b.toNat : Int)] 5))
              refine hK.out _ _ ?_ (fun hHeld => ?_)
              · exact trivial
              clear hK K
              (try simp only [Act.put, List.getElem_toArray, List.getElem_cons_zero, List.getElem_cons_succ, List.setIfInBounds_toArray, List.set_cons_zero, List.set_cons_succ])
              refine wpAnyH_ready (rs := [5]) (by kernel_rfl) (by simp) ?_
              refine AllReadyH.cons rfl (fun K hK => ?_) AllReadyH.nil
              simp only [List.getElem_toArray, List.getElem_cons_zero, List.getElem_cons_succ]
              go_simp
              rw [one_blk HC]
              go_simp
              refine hK.out _ _ ?_ (fun hHeld => ?_)
              · exact trivial
              clear hK K
              (try simp only [Act.put, List.getElem_toArray, List.getElem_cons_zero, List.getElem_cons_succ, List.setIfInBounds_toArray, List.set_cons_zero, List.set_cons_succ])
              refine wpAnyH_take (i := 6) (v := .string (s1.extract 0 x ++ ⟨#[b]⟩)) rfl (by kernel_rfl) (by kernel_rfl) (by kernel_rfl) (fun _ _ _ h => h) (Or.inl ⟨by rfl, fun w hSw => by (go_simp; omega)⟩) (by assumption) ?_
              (try simp only [Act.put, List.getElem_toArray, List.getElem_cons_zero, List.getElem_cons_succ, List.setIfInBounds_toArray, List.set_cons_zero, List.set_cons_succ])
              refine wpAnyH_take (i := 11) (v := .string ⟨(L.set x b).toArray⟩) rfl (by kernel_rfl) (by kernel_rfl) (by kernel_rfl) (fun _ _ _ h => h) (Or.inl ⟨by rfl, fun w hSw => by (go_simp; rw [if_neg (by have := HX110.out; omega), HLS.out])⟩) (by assumption) ?_
              (try simp only [Act.put, List.getElem_toArray, List.getElem_cons_zero, List.getElem_cons_succ, List.setIfInBounds_toArray, List.set_cons_zero, List.set_cons_succ])
              refine wpAnyH_ready (rs := [12]) (by kernel_rfl) (by simp) ?_
              refine AllReadyH.cons rfl (fun K hK => ?_) AllReadyH.nil
              simp only [List.getElem_toArray, List.getElem_cons_zero, List.getElem_cons_succ]
              go_simp
              go_at_call 21; (with_reducible refine (HRd.out x HFK.out _).mono ?_); rintro e w12 ⟨rfl, k12⟩
              replace HA := HA.kept k12
              replace H5 := H5.kept k12
              replace BB := BB.trans (k12.mono BB.size)
              clear k12
              refine hK.out _ _ ?_ (fun hHeld => ?_)
              · exact trivial
              clear hK K
              (try simp only [Act.put, List.getElem_toArray, List.getElem_cons_zero, List.getElem_cons_succ, List.setIfInBounds_toArray, List.set_cons_zero, List.set_cons_succ])
              refine wpAnyH_take (i := 13) (v := ?_) rfl (by kernel_rfl) (by kernel_rfl) (by kernel_rfl) (fun _ _ _ h => h) (Or.inl ⟨by rfl, ?_⟩) (by assumption) ?_
              rotate_left
              · (intro w hSw; (try dsimp only at hSw); go_simp; (try with_reducible rfl))
              (try simp only [Act.put, List.getElem_toArray, List.getElem_cons_zero, List.getElem_cons_succ, List.setIfInBounds_toArray, List.set_cons_zero, List.set_cons_succ])
              refine wpAnyH_take (i := 14) (v := ?_) rfl (by kernel_rfl) (by kernel_rfl) (by kernel_rfl) (fun _ _ _ h => h) (Or.inl ⟨by rfl, ?_⟩) (by assumption) ?_
              rotate_left
              · (intro w hSw; (try dsimp only at hSw); go_simp; (try with_reducible rfl))
              (try simp only [Act.put, List.getElem_toArray, List.getElem_cons_zero, List.getElem_cons_succ, List.setIfInBounds_toArray, List.set_cons_zero, List.set_cons_succ])
              refine wpAnyH_take (i := 15) (v := ?_) rfl (by kernel_rfl) (by kernel_rfl) (by kernel_rfl) (fun _ _ _ h => h) (Or.inl ⟨by rfl, ?_⟩) (by assumption) ?_
              rotate_left
              · (intro w hSw; (try dsimp only at hSw); go_simp; (try with_reducible rfl))
              (try simp only [Act.put, List.getElem_toArray, List.getElem_cons_zero, List.getElem_cons_succ, List.setIfInBounds_toArray, List.set_cons_zero, List.set_cons_succ])
              refine wpAnyH_ready (rs := [17]) (by kernel_rfl) (by simp) ?_
              refine AllReadyH.cons rfl (fun K hK => ?_) AllReadyH.nil
              simp only [List.getElem_toArray, List.getElem_cons_zero, List.getElem_cons_succ]
              rw [if_pos (by rfl)]
              refine wp_store_op (k := 0) 27 (.agg (lcC l)) (lcC l) (by rfl) rfl rfl H5 (by kernel_rfl) (show (23 : Nat) ≤ 23 from Nat.le_refl 23) (by rfl) (st_wholeL _ _ rfl) (fun u2 H6 b6 g6 => ?_)
              replace HA := HA.grown g6 (by simp; omega)
              replace BB := BB.trans (b6.mono (Nat.le_of_lt h5))
              refine hK.out _ _ ?_ (fun hHeld => ?_)
              · exact trivial
              clear hK K
              (try simp only [Act.put, List.getElem_toArray, List.getElem_cons_zero, List.getElem_cons_succ, List.setIfInBounds_toArray, List.set_cons_zero, List.set_cons_succ])
              refine wpAnyH_take (i := 18) (v := ?_) rfl (by kernel_rfl) (by kernel_rfl) (by kernel_rfl) (fun _ _ _ h => h) (Or.inl ⟨by rfl, ?_⟩) (by assumption) ?_
              rotate_left
              · (intro w hSw; (try dsimp only at hSw); go_simp; (try with_reducible rfl))
              (try simp only [Act.put, List.getElem_toArray, List.getElem_cons_zero, List.getElem_cons_succ, List.setIfInBounds_toArray, List.set_cons_zero, List.set_cons_succ])
              refine wpAnyH_done (by kernel_rfl) ?_ _
              refine NoPanic.normal ?_
              go_wp2_with (first
                | (first | (refine load_blk (k := 0) 27 (lcC l) (by rfl) rfl rfl H6 (by kernel_rfl) (by kernel_rfl) rfl ?_) | (refine load_blk (k := 0) 27 (lcC l) (by rfl) rfl rfl H6.drew (by kernel_rfl) (by kernel_rfl) rfl ?_))
                | (first | (refine load_blk (k := 0) 27 (lcC l) (by rfl) rfl rfl HA (by kernel_rfl) (by kernel_rfl) rfl ?_) | (refine load_blk (k := 0) 27 (lcC l) (by rfl) rfl rfl HA.drew (by kernel_rfl) (by kernel_rfl) rfl ?_))
                | (refine eq_blk .eql 27 (lcC l) (lcC l) true (by rfl) rfl (Or.inl rfl) rfl rfl (by kernel_rfl) (HQ.out _) ?_))
              go_ret
              exact ⟨rfl, BB⟩

end Go.Proofs.YtocgnbbnaamjjaaDoor.lacpFree
