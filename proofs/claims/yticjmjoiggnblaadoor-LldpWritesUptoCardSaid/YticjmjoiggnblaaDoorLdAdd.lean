/- lldp.records: its function add. -/
import Derived.Test.YticjmjoiggnblaaDoorLdText
import Derived.Test.YticjmjoiggnblaaDoorTlS
namespace Go.Proofs.YticjmjoiggnblaaDoor
open Go.RowKit
attribute [local go_sem ↓] Go.wp_at_zero Go.wp_at_succ
set_option linter.unusedSimpArgs false
set_option linter.unusedVariables false
set_option maxRecDepth 100000

/-- A cell that holds a list of records of its own. -/
def AcTl (w : World) (B : Nat) (l : List Tl) : Prop := ∃ a c, Blk w B 22 #[.slice a l.length c] ∧ OwnTl w (B + 1) (.slice a l.length c) l
theorem AcTl.kept {w w' : World} {B : Nat} {l : List Tl} (h : AcTl w B l) (hb : Below w.heap.size w w') : AcTl w' B l := by
  obtain ⟨a, c, h1, h2⟩ := h
  exact ⟨a, c, h1.kept hb, h2.kept hb⟩
theorem AcTl.drew {w : World} {B : Nat} {l : List Tl} (h : AcTl w B l) : AcTl w.drew B l := h
/-- Blocks of other types are as they were. -/
def KeepL (w w' : World) : Prop := ∀ X T C, Blk w X T C → T ≠ 24 → T ≠ 22 → Blk w' X T C
theorem KeepL.of {w w' : World} (h : Below w.heap.size w w') : KeepL w w' := fun _ _ _ hB _ _ => hB.kept h
theorem KeepL.trans {w w' w'' : World} (h : KeepL w w') (h' : KeepL w' w'') : KeepL w w'' := fun X T C hB h1 h2 => h' X T C (h X T C hB h1 h2) h1 h2
theorem blk_type {w : World} {X : Nat} {T T' : TypeId} {C D : Array Value} (h : Blk w X T C) (h' : Blk w X T' D) : T = T' := by
  have h1 : w.heap[X]? = some (.cells C T (0, 0)) := h
  have h2 : w.heap[X]? = some (.cells D T' (0, 0)) := h'
  rw [h1] at h2
  injection h2 with h2
  injection h2
theorem KeepL.row {w w' : World} {B : Nat} {v : Value} {l : List Tl} (hO : OwnTl w B v l) (hg : w.grownBy w' v.ownBlock) : KeepL w w' := fun X T C hX h1 h2 => by
  refine hX.grown hg ?_
  rcases hO.blk with e | ⟨g, D, e, _, hg2⟩
  · rw [e]
    intro q
    cases q
  · rw [e]
    intro q
    cases q
    exact h1 (blk_type hX hg2)
theorem KeepL.cell {w w' : World} {B : Nat} {D : Array Value} (hB : Blk w B 22 D) (hg : w.grownBy w' (some B)) : KeepL w w' := fun X T C hX h1 h2 => by
  refine hX.grown hg ?_
  intro q
  cases q
  exact h2 (blk_type hX hB)
def kTl (k : Int) (l : List ByteArray) : List Tl := l.map fun s => ⟨k, s⟩
theorem kTl_take (k : Int) (l : List ByteArray) (i : Nat) (hi : i < l.length) : kTl k (l.take (i + 1)) = kTl k (l.take i) ++ [⟨k, l[i]⟩] := by
  unfold kTl
  rw [List.take_add_one, List.getElem?_eq_getElem hi, List.map_append]
  rfl

set_option maxHeartbeats 3200000 in
theorem add_core (B : Nat) (kind : Int) (a : Option Addr) (c : Nat) (l : List ByteArray) (m : List Tl) (w : World) (hA : AcTl w B m)
    (hc : ∀ (k : Nat) (hk : k < l.length) (wr : World), (k = 0 → wr = w) → Below B w wr → ∃ b o, a = some ⟨b, o, none⟩ ∧ wr.cell? ⟨b, o + k, none⟩ = some (.string l[k])) (hlen : m.length + l.length ≤ 1000) :
    Calls Tryd.prog 89 #[.int .i64 kind, .slice a l.length c, .pointer (some ⟨B, 0, none⟩)] w fun e w' => e = .returned (.tuple #[]) ∧ AcTl w' B (m ++ kTl kind l) ∧ Below B w w' ∧ KeepL w w' := by
  have HC := Lib.hid hc
  clear hc
  go_enter Tryd.func89, Tryd.ntmps89
  go_wp2_with fail
  go_loopw [9] (fun i wr => ∃ k : Nat, k ≤ l.length ∧ i = .int .i64 k ∧ AcTl wr B (m ++ kTl kind (l.take k)) ∧ Below B w wr ∧ KeepL w wr ∧ (k = 0 → wr = w)) (fun i _ => l.length - (intOf i).toNat)
  case atStart => exact ⟨0, by omega, rfl, by rw [List.take_zero]; simpa [kTl] using hA, Below.refl _ _, KeepL.of (Below.refl _ _), fun _ => rfl⟩
  case round =>
    obtain ⟨k, hk, rfl, hAk, Bk, Kk, h0⟩ := hrel
    by_cases hlt : k < l.length
    · obtain ⟨b, o, rfl, hcell⟩ := HC.out k hlt wr h0 Bk
      have q1 : (k : Int) < (l.length : Int) := by omega
      have q2 : decide ((k : Int) < (l.length : Int)) = true := decide_eq_true q1
      have q3 : (0 : Int) ≤ (k : Int) := by omega
      have HT := Lib.hid (kTl_take kind l k hlt)
      have hml : Hid ((m ++ kTl kind (l.take k)).length ≤ 1000) := by
        show _ ≤ _
        rw [List.length_append]
        unfold kTl
        rw [List.length_map, List.length_take]
        omega
      obtain ⟨a1, c1, HB1, HO1⟩ := hAk
      have c0 := HB1.cv 0 _ rfl
      have hB1 := HB1.lt
      generalize l[k] = x at *
      generalize hmm : m ++ kTl kind (l.take k) = mm at *
      have HMM := Lib.hid hmm
      clear hmm h0 HC
      go_wp2_with (first
        | (refine build_blk (t := 24) (tlC ⟨kind, x⟩) (by rfl) rfl (by kernel_rfl) ?_)
        | (refine sliceL_tl ⟨kind, x⟩ rfl rfl rfl (fun w2 HG2 b2 hlt2 => ?_); have HB2 := HB1.kept b2; have HO2 := HO1.kept b2; have B2 := Bk.trans (b2.mono (Nat.le_of_lt hB1)); have hB2 : B + 1 ≤ w2.heap.size := Nat.le_trans hB1 b2.size; have K2 := Kk.trans (KeepL.of b2))
        | (refine appendL_tl ⟨kind, x⟩ rfl rfl rfl rfl HO2 HG2 (by have := hml.out; omega) hB2 (fun v3 w3 HO3 b3 g3 => ?_); have HB3 := HB2.below b3 (Nat.lt_succ_self B); have K3 := K2.trans (KeepL.row HO2 g3); have B3 := B2.trans (b3.mono (Nat.le_succ B)); obtain ⟨a3, c3, hv3, _⟩ := HO3.inL; subst hv3)
        | (refine store_blk (k := 0) 22 _ #[_] (by rfl) rfl rfl rfl HB3 (by kernel_rfl) (show (1 : Nat) ≤ 1 from Nat.le_refl 1) (by rfl) (by rfl) (fun w4 HB4 b4 g4 => ?_); have HO4 := HO3.other HB3 (by decide) g4; have B4 := B3.trans b4; have K4 := K3.trans (KeepL.cell HB3 g4)))
      go_roundw
      case rel => exact ⟨k + 1, by omega, by go_num, by
        rw [HT.out, ← List.append_assoc, HMM.out]
        exact ⟨_, _, HB4, HO4⟩, B4, K4, by omega⟩
      case measure => simp [intOf]; omega
    · obtain rfl : k = l.length := by omega
      have q2 : decide ((l.length : Int) < (l.length : Int)) = false := decide_eq_false (by omega)
      rw [List.take_length] at hAk
      go_wp2
      go_end0
      exact ⟨rfl, hAk, Bk, Kk⟩
/-- Texts that lie ahead of the cell. -/
theorem add_far (B : Nat) (kind : Int) (a : Option Addr) (c : Nat) (l : List ByteArray) (m : List Tl) (w0 w : World) (hA : AcTl w B m) (h : StIn w0 a l) (h0 : Below w0.heap.size w0 w) (hB : w0.heap.size ≤ B) (hlen : m.length + l.length ≤ 1000) :
    Calls Tryd.prog 89 #[.int .i64 kind, .slice a l.length c, .pointer (some ⟨B, 0, none⟩)] w fun e w' => e = .returned (.tuple #[]) ∧ AcTl w' B (m ++ kTl kind l) ∧ Below B w w' ∧ KeepL w w' := by
  refine add_core B kind a c l m w hA (fun k hk wr _ hb => ?_) hlen
  obtain ⟨b, o, rfl, hbl, hat⟩ := (h.below (h0.trans (hb.mono hB))).at hk
  refine ⟨b, o, rfl, ?_⟩
  have q := hat k hk 0 (.string l[k]) rfl
  rw [Nat.mul_one, Nat.add_zero] at q
  exact q
/-- A text alone. -/
theorem add_one (B : Nat) (kind : Int) (y : ByteArray) (m : List Tl) (w : World) (G : Nat) (hA : AcTl w B m) (hG : Blk w G 9 (stC y)) (hlen : m.length + 1 ≤ 1000) :
    Calls Tryd.prog 89 #[.int .i64 kind, .slice (some ⟨G, 0, none⟩) 1 1, .pointer (some ⟨B, 0, none⟩)] w fun e w' => e = .returned (.tuple #[]) ∧ AcTl w' B (m ++ [⟨kind, y⟩]) ∧ Below B w w' ∧ KeepL w w' := by
  refine add_core B kind (some ⟨G, 0, none⟩) 1 [y] m w hA (fun k hk wr h0 hb => ?_) hlen
  have : k = 0 := by simp at hk; omega
  subst this
  cases h0 rfl
  exact ⟨G, 0, rfl, hG.cv 0 (.string y) rfl⟩

end Go.Proofs.YticjmjoiggnblaaDoor
