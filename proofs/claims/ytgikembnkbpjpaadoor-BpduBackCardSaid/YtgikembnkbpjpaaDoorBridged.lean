/- switchyardkeep.bridged: a fact: true. -/
import Derived.Test.YtgikembnkbpjpaaDoorBpBack
import Derived.Test.YtgikembnkbpjpaaDoorBpWrite
namespace Go.Proofs.YtgikembnkbpjpaaDoor
open Go.RowKit
attribute [local go_sem ↓] Go.wp_at_zero Go.wp_at_succ
set_option linter.unusedSimpArgs false
set_option linter.unusedVariables false
set_option maxRecDepth 100000

/-- Its BPDU. -/
def fB : Bp := ⟨3, ⟨false, false, 2, false, true, false, false⟩, zBr, 0, zBr, 128, 1, 0, 5120, 0, 0⟩
theorem fB_ok : okBp fB = true := by rfl
theorem fB_by : byBp fB := ⟨fun _ => (by decide : (0 : Nat) < 256), fun _ => (by decide : (0 : Nat) < 256)⟩
theorem fB_rg : rgBp fB := rg_of (b := fB) rfl
theorem ReadsAs.nil {X : Array Value} {w w' : World} {r : Ending} (h : ReadsAs X 0 (-1) w r w') : r = .returned (.tuple #[.agg X, .nilIface]) ∧ Below w.heap.size w w' := by
  obtain ⟨er, rfl, he, b⟩ := h
  rcases he with ⟨rfl, _, _⟩ | ⟨q, _⟩
  · exact ⟨rfl, b⟩
  · exact absurd rfl q
/-- Read of a text as a list. -/
theorem read_list (b : Bp) (hok : okBp b = true) (hx : byBp b) (m : List UInt8) (hm : (writeL b ++ m).length ≤ 300) (W : World) :
    Calls Tryd.prog 13 #[.string ⟨(writeL b ++ m).toArray⟩] W fun r w' => r = .returned (.tuple #[.agg (bpC b), .nilIface]) ∧ Below W.heap.size W w' :=
  (read_back b hok hx ⟨(writeL b ++ m).toArray⟩ m rfl (by simpa [ByteArray.size] using hm) W).mono fun _ _ h => h.nil

set_option maxHeartbeats 3200000 in
theorem bridged_any (w : World) : Calls Tryd.prog 15 #[] w fun e w' => e = .returned (.bool true) ∧ Below w.heap.size w w' := by
  have hnn : ∀ w : World, (binOp BinOp.eql 36 .nilIface .nilIface).run Tryd.prog w = .ok (.bool true) w := fun _ => by kernel_rfl
  have hl : (writeL fB).length = 36 := by rw [writeL_len]; rfl
  have HW := Lib.hid (fun W => bpWrite_yes fB fB_ok fB_by fB_rg W)
  have HR := Lib.hid (fun W => read_list fB fB_ok fB_by [109, 111, 114, 101] (by rw [List.length_append, hl]; decide) W)
  have HY := Lib.hid (fun W => byte_any fB.f rfl W)
  rw [show (byF fB.f : Int) = 40 from rfl] at HY
  have HQ : ∀ W, (Op.equalIn 10000 31 (.agg (bpC fB)) (.agg (bpC fB))).run Tryd.prog W = .ok true W := fun W => by
    have h := run_eql_bp 9996 fB fB W
    rw [eqBp_self] at h
    exact h
  generalize writeL fB = y at *
  have p1 : ∀ W, (Op.stringOp .add ⟨y.toArray⟩ ⟨#[109, 111, 114, 101]⟩).run Tryd.prog W = .ok (.string ⟨(y ++ [109, 111, 114, 101]).toArray⟩) W := fun W => run_string_add_lists W _ [109, 111, 114, 101] (by omega) (by decide)
  generalize y ++ [109, 111, 114, 101] = z at *
  go_enter Tryd.func15, Tryd.ntmps15
  go_upto_region 2 with (first
    | (refine build_blk (t := 23) (flC fB.f) (by rfl) rfl (by kernel_rfl) ?_)
    | (refine build_blk (t := 29) (ptC 128 1) (by rfl) rfl (by kernel_rfl) ?_)
    | (refine build_blk (t := 31) (bpC fB) (by rfl) rfl (by kernel_rfl) ?_)
    | (refine alloc_blk 31 (bpC zBp) (by rfl) rfl Tryd.bpZero ?_)
    | (refine store_blk (k := 0) 31 (.agg (bpC fB)) (bpC fB) (by rfl) rfl rfl rfl (Blk.new w _ _) (by kernel_rfl) (show (31 : Nat) ≤ 31 from Nat.le_refl 31) (by rfl) (st_whole _ _ rfl) ?_; intro w1 HA1 b1 g1))
  (try simp only [Act.put, List.setIfInBounds_toArray, List.set_cons_zero, List.set_cons_succ])
  have B1 : Below w.heap.size w w1 := ((Below.refl _ _).alloc (Nat.le_refl _) _).trans b1
  clear b1 g1
  go_wp2_with (refine load_blk (k := 0) 31 (bpC fB) (by rfl) rfl rfl HA1 (by kernel_rfl) (by kernel_rfl) rfl ?_)
  refine (HW.out _).mono ?_
  rintro e w2 ⟨rfl, k2⟩
  have HA2 := HA1.kept k2
  have B2 := B1.trans (k2.mono B1.size)
  clear HA1 B1 k2
  go_wp2_with fail
  refine (HR.out _).mono ?_
  rintro e w3 ⟨rfl, k3⟩
  have HA3 := HA2.kept k3
  have B3 := B2.trans (k3.mono B2.size)
  have lt3 : w.heap.size < w3.heap.size := HA3.lt
  clear HA2 B2 k3
  go_upto_region 4 with (first
    | (refine alloc_blk 31 (bpC zBp) (by rfl) rfl Tryd.bpZero ?_)
    | (refine store_blk (k := 0) 31 (.agg (bpC fB)) (bpC fB) (by rfl) rfl rfl rfl (Blk.new w3 _ _) (by kernel_rfl) (show (31 : Nat) ≤ 31 from Nat.le_refl 31) (by rfl) (st_whole _ _ rfl) ?_; intro w4 HV4 b4 g4; have HA4 := (HA3.alloc (.cells (bpC zBp) 31)).below b4 lt3; have B4 : Below w.heap.size w w4 := (B3.alloc B3.size _).trans (b4.mono (by omega))))
  (try simp only [Act.put, List.setIfInBounds_toArray, List.set_cons_zero, List.set_cons_succ])
  clear HA3 B3 b4 g4
  generalize w3.heap.size = v at *
  go_wp2_with (first
    | (refine load_blk (k := 0) 31 (bpC fB) (by rfl) rfl rfl HV4 (by kernel_rfl) (by kernel_rfl) rfl ?_)
    | (refine load_blk (k := 0) 31 (bpC fB) (by rfl) rfl rfl HA4 (by kernel_rfl) (by kernel_rfl) rfl ?_)
    | (refine load_blk (k := 1) 23 (flC fB.f) (by rfl) rfl rfl HA4 (by kernel_rfl) (by kernel_rfl) rfl ?_)
    | (refine eq_blk .eql 31 (bpC fB) (bpC fB) true (by rfl) rfl (Or.inl rfl) rfl rfl (by kernel_rfl) (HQ _) ?_))
  refine (HY.out _).mono ?_
  rintro e w5 ⟨rfl, k5⟩
  go_wp2
  go_ret
  exact ⟨rfl, B4.trans (k5.mono B4.size)⟩

end Go.Proofs.YtgikembnkbpjpaaDoor
