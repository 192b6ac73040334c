/- What the laws on addresses share: addresses that lie in memory; Parse of a text; addressed (a fact on package mac). -/
import Derived.Test.YtafmkgdpfjimkaaMacParse
import Derived.Test.YtafmkgdpfjimkaaPick
namespace Go.Proofs.Ytafmkgdpfjimkaa
open Go.RowKit
attribute [local go_sem ↓] Go.wp_at_zero Go.wp_at_succ

theorem below_then {w w1 w2 : World} (h : Below w.heap.size w w1) (k : Below w1.heap.size w1 w2) : Below w.heap.size w w2 := h.trans (k.mono h.size)

/-- An address lies in a block of its own. -/
def HasA (w : World) (B : Nat) (x : Nat → Nat) : Prop := w.heap[B]? = some (.cells (sixC x) 23 (0, 0))

theorem HasA.c {w : World} {B : Nat} {x : Nat → Nat} (h : HasA w B x) (i : Nat) (hi : i < 6) : w.cell? ⟨B, i, none⟩ = some (.int .u8 (x i)) := (Joins.cell_of_block h i).trans (sixC_get _ _ hi)
theorem HasA.lt {w : World} {B : Nat} {x : Nat → Nat} (h : HasA w B x) : B < w.heap.size := World.block_lt_of_cell? w _ (h.c 0 (by omega))
theorem HasA.below {w w' : World} {B C : Nat} {x : Nat → Nat} (h : HasA w B x) (hb : Below C w w') (hC : B < C) : HasA w' B x := (hb.block _ hC).trans h
theorem HasA.drew {w : World} {B : Nat} {x : Nat → Nat} (h : HasA w B x) : HasA w.drew B x := h

/-- The cells of an address, all at once. -/
theorem HasA.all {w : World} {B : Nat} {x : Nat → Nat} (h : HasA w B x) : w.cell? ⟨B, 0, none⟩ = some (.int .u8 (x 0)) ∧ w.cell? ⟨B, 1, none⟩ = some (.int .u8 (x 1)) ∧ w.cell? ⟨B, 2, none⟩ = some (.int .u8 (x 2)) ∧ w.cell? ⟨B, 3, none⟩ = some (.int .u8 (x 3)) ∧ w.cell? ⟨B, 4, none⟩ = some (.int .u8 (x 4)) ∧ w.cell? ⟨B, 5, none⟩ = some (.int .u8 (x 5)) :=
  ⟨h.c 0 (by omega), h.c 1 (by omega), h.c 2 (by omega), h.c 3 (by omega), h.c 4 (by omega), h.c 5 (by omega)⟩

theorem addrV_six {a b : Nat → Nat} (h : six a = six b) : addrV a = addrV b := by
  simp only [six, List.cons.injEq, and_true] at h
  obtain ⟨h0, h1, h2, h3, h4, h5⟩ := h
  simp [addrV, h0, h1, h2, h3, h4, h5]

/-- Parse of a text that is an address's. -/
theorem parse_text (b : Nat → Nat) (hb : ∀ i, b i < 256) (w : World) :
    Calls Try.prog 8 #[.string ⟨(addrL b).toArray⟩] w fun e w' => e = .returned (.tuple #[addrV b, .nilIface]) ∧ Below w.heap.size w w' := by
  refine (parse_any _ w).mono fun e w' h => ⟨?_, h.2⟩
  rcases h.1 with ⟨a, ha, hl, he⟩ | ⟨hno, _⟩
  · rw [he, addrV_six (addrL_inj ha hb hl)]
  · exact absurd rfl (hno b hb)

theorem lt14 : ∀ i, knownF 14 i < 256 := knownF_lt 14 (by omega)

theorem parse14 (w : World) :
    Calls Try.prog 8 #[.string ⟨#[48, 49, 58, 56, 48, 58, 99, 50, 58, 48, 48, 58, 48, 48, 58, 48, 101]⟩] w fun e w' => e = .returned (.tuple #[.agg #[.int .u8 1, .int .u8 128, .int .u8 194, .int .u8 0, .int .u8 0, .int .u8 14], .nilIface]) ∧ Below w.heap.size w w' :=
  parse_text (knownF 14) lt14 w
theorem text14 (w : World) :
    Calls Try.prog 9 #[.agg #[.int .u8 1, .int .u8 128, .int .u8 194, .int .u8 0, .int .u8 0, .int .u8 14]] w fun e w' => e = .returned (.string ⟨#[48, 49, 58, 56, 48, 58, 99, 50, 58, 48, 48, 58, 48, 48, 58, 48, 101]⟩) ∧ Below w.heap.size w w' :=
  text_any (knownF 14) lt14 w
theorem reserved14 (w : World) :
    Calls Try.prog 10 #[.agg #[.int .u8 1, .int .u8 128, .int .u8 194, .int .u8 0, .int .u8 0, .int .u8 14]] w fun e w' => e = .returned (.int .i64 14) ∧ Below w.heap.size w w' :=
  reserved_any (knownF 14) lt14 w
theorem group14 (w : World) :
    Calls Try.prog 12 #[.agg #[.int .u8 1, .int .u8 128, .int .u8 194, .int .u8 0, .int .u8 0, .int .u8 14]] w fun e w' => e = .returned (.bool true) ∧ Below w.heap.size w w' :=
  group_any (knownF 14) lt14 w
theorem known14 (w : World) :
    Calls Try.prog 11 #[.int .i64 14] w fun e w' => e = .returned (.agg #[.int .u8 1, .int .u8 128, .int .u8 194, .int .u8 0, .int .u8 0, .int .u8 14]) ∧ Below w.heap.size w w' :=
  known_fits 14 (by omega) w

theorem addressed_any (w : World) :
    Calls Try.prog 7 #[] w fun e w' => e = .returned (.bool true) ∧ Below w.heap.size w w' := by
  have hq : ∀ W, (Op.equalIn 10000 23 (.agg #[.int .u8 1, .int .u8 128, .int .u8 194, .int .u8 0, .int .u8 0, .int .u8 14]) (.agg #[.int .u8 1, .int .u8 128, .int .u8 194, .int .u8 0, .int .u8 0, .int .u8 14])).run Try.prog W = .ok true W := fun W => by
    have h := run_eql_addr (knownF 14) (knownF 14) lt14 lt14 W
    rw [decide_eq_true rfl] at h
    exact h
  go_enter Try.func7, Try.ntmps7
  go_wp2_with fail
  refine (parse14 _).mono ?_
  rintro e w1 ⟨rfl, hb1⟩
  have hs1 := hb1.size
  go_wp2
  have h2 : HasA (w1.alloc (.cells #[.int .u8 1, .int .u8 128, .int .u8 194, .int .u8 0, .int .u8 0, .int .u8 14] 23)) w1.heap.size (knownF 14) := heap_alloc_new w1 _
  have hb2 : Below w.heap.size w (w1.alloc (.cells #[.int .u8 1, .int .u8 128, .int .u8 194, .int .u8 0, .int .u8 0, .int .u8 14] 23)) := hb1.alloc hs1 _
  generalize w1.alloc (.cells #[.int .u8 1, .int .u8 128, .int .u8 194, .int .u8 0, .int .u8 0, .int .u8 14] 23) = W at *
  generalize w1.heap.size = B at *
  clear hb1 hs1
  have hlt := h2.lt
  have S2 : W.cell? ⟨B, 0, none⟩ = some (.int .u8 1) ∧ W.cell? ⟨B, 1, none⟩ = some (.int .u8 128) ∧ W.cell? ⟨B, 2, none⟩ = some (.int .u8 194) ∧ W.cell? ⟨B, 3, none⟩ = some (.int .u8 0) ∧ W.cell? ⟨B, 4, none⟩ = some (.int .u8 0) ∧ W.cell? ⟨B, 5, none⟩ = some (.int .u8 14) := h2.all
  go_region_held3 (fun w' => w'.cell? ⟨B, 0, none⟩ = some (.int .u8 1) ∧ w'.cell? ⟨B, 1, none⟩ = some (.int .u8 128) ∧ w'.cell? ⟨B, 2, none⟩ = some (.int .u8 194) ∧ w'.cell? ⟨B, 3, none⟩ = some (.int .u8 0) ∧ w'.cell? ⟨B, 4, none⟩ = some (.int .u8 0) ∧ w'.cell? ⟨B, 5, none⟩ = some (.int .u8 14))
    (first
      | exact S6
      | exact S5
      | exact S4
      | exact S3
      | exact S2)
    (first
      | (go_at_call 11; refine (known14 _).mono ?_; rintro e w3 ⟨rfl, k3⟩; have h3 := h2.drew.below k3 hlt; have S3 : w3.cell? ⟨B, 0, none⟩ = some (.int .u8 1) ∧ w3.cell? ⟨B, 1, none⟩ = some (.int .u8 128) ∧ w3.cell? ⟨B, 2, none⟩ = some (.int .u8 194) ∧ w3.cell? ⟨B, 3, none⟩ = some (.int .u8 0) ∧ w3.cell? ⟨B, 4, none⟩ = some (.int .u8 0) ∧ w3.cell? ⟨B, 5, none⟩ = some (.int .u8 14) := h3.all)
      | (go_at_call 9; refine (text14 _).mono ?_; rintro e w4 ⟨rfl, k4⟩; have h4 := h3.below k4 h3.lt; have S4 : w4.cell? ⟨B, 0, none⟩ = some (.int .u8 1) ∧ w4.cell? ⟨B, 1, none⟩ = some (.int .u8 128) ∧ w4.cell? ⟨B, 2, none⟩ = some (.int .u8 194) ∧ w4.cell? ⟨B, 3, none⟩ = some (.int .u8 0) ∧ w4.cell? ⟨B, 4, none⟩ = some (.int .u8 0) ∧ w4.cell? ⟨B, 5, none⟩ = some (.int .u8 14) := h4.all)
      | (go_at_call 10; refine (reserved14 _).mono ?_; rintro e w5 ⟨rfl, k5⟩; have h5 := h4.below k5 h4.lt; have S5 : w5.cell? ⟨B, 0, none⟩ = some (.int .u8 1) ∧ w5.cell? ⟨B, 1, none⟩ = some (.int .u8 128) ∧ w5.cell? ⟨B, 2, none⟩ = some (.int .u8 194) ∧ w5.cell? ⟨B, 3, none⟩ = some (.int .u8 0) ∧ w5.cell? ⟨B, 4, none⟩ = some (.int .u8 0) ∧ w5.cell? ⟨B, 5, none⟩ = some (.int .u8 14) := h5.all)
      | (go_at_call 12; refine (group14 _).mono ?_; rintro e w6 ⟨rfl, k6⟩; have h6 := h5.below k6 h5.lt; have S6 : w6.cell? ⟨B, 0, none⟩ = some (.int .u8 1) ∧ w6.cell? ⟨B, 1, none⟩ = some (.int .u8 128) ∧ w6.cell? ⟨B, 2, none⟩ = some (.int .u8 194) ∧ w6.cell? ⟨B, 3, none⟩ = some (.int .u8 0) ∧ w6.cell? ⟨B, 4, none⟩ = some (.int .u8 0) ∧ w6.cell? ⟨B, 5, none⟩ = some (.int .u8 14) := h6.all))
  all_goals (
    go_wp2
    go_ret
    exact ⟨rfl, below_then (below_then (below_then (below_then hb2.drew k3) k4) k5) k6⟩)
end Go.Proofs.Ytafmkgdpfjimkaa
