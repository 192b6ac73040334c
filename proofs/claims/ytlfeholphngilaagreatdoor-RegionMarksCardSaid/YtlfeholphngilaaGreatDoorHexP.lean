/- strconv.ParseUint at base 16, 32 bits, of eight lower digits. -/
import Derived.Test.YtlfeholphngilaaGreatDoorProg
import Derived.Test.YtlfeholphngilaaGreatDoorMd5M
import Derived.WalkKit
import Derived.WalkSpells
import Derived.WalkLawsBesides
import Derived.Laws.IdiomStrings
import Derived.Laws.BitsAllLaws
import Derived.Lib.Hide
import Derived.BigGuard
import Derived.Test.YtlfeholphngilaaGreatDoorRow
namespace Go.Proofs.YtlfeholphngilaaGreatDoor
open Go.RowKit
set_option linter.unusedVariables false

def hexOk (b : UInt8) : Bool := (decide (48 ≤ b.toNat) && decide (b.toNat ≤ 57)) || (decide (97 ≤ b.toNat) && decide (b.toNat ≤ 102))
def hexD (b : UInt8) : Nat := if b.toNat ≤ 57 then b.toNat - 48 else b.toNat - 87
def hexA (a : Nat) (l : List UInt8) : Nat := l.foldl (fun a b => a * 16 + hexD b) a
theorem hexD_lt {b : UInt8} (h : hexOk b = true) : hexD b < 16 := by
  unfold hexOk at h
  unfold hexD
  simp only [Bool.or_eq_true, Bool.and_eq_true, decide_eq_true_eq] at h
  split <;> omega
theorem hexA_snoc (l : List UInt8) (b : UInt8) : hexA 0 (l ++ [b]) = hexA 0 l * 16 + hexD b := by simp [hexA]
theorem hexA_lt : ∀ (l : List UInt8) (a n : Nat), (∀ b ∈ l, hexOk b = true) → a < 16 ^ n → hexA a l < 16 ^ (n + l.length)
  | [], a, n, _, h => h
  | b :: l, a, n, hl, h => by
    have hb := hexD_lt (hl b (by simp))
    have := hexA_lt l (a * 16 + hexD b) (n + 1) (fun c hc => hl c (by simp [hc])) (by rw [Nat.pow_succ]; omega)
    rw [List.length_cons, show n + (l.length + 1) = n + 1 + l.length by omega]
    exact this

set_option maxHeartbeats 1600000 in
set_option maxRecDepth 100000 in
theorem hexInner_any (s : ByteArray) (w : World) (hs : s.size = 8) (hok : ∀ b ∈ s.data.toList, hexOk b = true) :
    Calls Tryz.prog 53 #[.string s, .int .i64 16, .int .i64 32] w fun e w' => e = .returned (.tuple #[.int .u64 (hexA 0 s.data.toList : Nat), .nilIface]) ∧ Below w.heap.size w w' := by
  have hcv := fun W => run_bytes_of_string (P := Tryz.prog) W 9 35 5 s Tryz.underlying9 Tryz.underlying35 Tryz.underlying5
  rw [hs] at hcv
  obtain ⟨l, hl⟩ : ∃ l, l = s.data.toList := ⟨_, rfl⟩
  have hlen : l.length = 8 := by rw [hl, ← hs]; simp
  have hr0 : BRow ((w.alloc (Obj.cells (bytesRow s (grownCap w 8 0 5)) 5 ((bytesRow s (grownCap w 8 0 5)).size, (bytesRow s (grownCap w 8 0 5)).size + 1))).drew) w.heap.size l := by rw [hl]; exact BRow.new w s _
  have hb0 : Below w.heap.size w ((w.alloc (Obj.cells (bytesRow s (grownCap w 8 0 5)) 5 ((bytesRow s (grownCap w 8 0 5)).size, (bytesRow s (grownCap w 8 0 5)).size + 1))).drew) := ((Below.refl _ _).alloc (Nat.le_refl _) _).drew
  rw [← hl] at hok ⊢
  have hemp : s.toList.isEmpty = false := by
    rw [← decide_eq_emptyBytes]
    exact decide_eq_false (fun h => by rw [h] at hs; cases hs)
  have HLN := Lib.hid hlen
  have HLS := Lib.hid hl
  have HOK := Lib.hid hok
  have hmv : IntKind.u64.wrap (IntKind.u64.wrap 4294967296 - 1) = 4294967295 := by decide
  clear hl hlen hok
  go_enter Tryz.func53, Tryz.ntmps53
  go_wp2
  generalize (w.alloc (Obj.cells (bytesRow s (grownCap w 8 0 5)) 5 ((bytesRow s (grownCap w 8 0 5)).size, (bytesRow s (grownCap w 8 0 5)).size + 1))).drew = W0 at *
  generalize grownCap w 8 0 5 = cap at *
  generalize hB : w.heap.size = B at *
  have HB := Lib.hid hB
  clear hB hcv
  go_loop [12, 13, 101] (fun vu vn vi => ∃ (k : Nat) (a : Int), vu = .bool false ∧ vn = .int .u64 a ∧ vi = .int .i64 k ∧ k ≤ 8 ∧ Hid (a = ((hexA 0 (l.take k) : Nat) : Int))) (fun _ _ vi => 8 - (intOf vi).toNat)
  case atStart => exact ⟨0, 0, rfl, rfl, rfl, by omega, rfl⟩
  case round =>
    obtain ⟨k, a, rfl, rfl, rfl, hk, hh⟩ := hrel
    by_cases hlt : k < 8
    · have hkl : k < l.length := by rw [HLN.out]; exact hlt
      have hcell := hr0.cellD hkl
      have hbk : hexOk (l.getD k 0) = true := HOK.out _ (by rw [List.getD_eq_getElem?_getD, List.getElem?_eq_getElem hkl]; exact List.getElem_mem _)
      have hbound : hexA 0 (l.take k) < 16 ^ (0 + (l.take k).length) := hexA_lt _ 0 0 (fun b hb => HOK.out b (List.mem_of_mem_take hb)) (by decide)
      have hsn : hexA 0 (l.take (k + 1)) = hexA 0 (l.take k) * 16 + hexD (l.getD k 0) := by
        rw [← hexA_snoc, List.take_add_one, List.getElem?_eq_getElem hkl, List.getD_eq_getElem?_getD, List.getElem?_eq_getElem hkl]
        rfl
      rw [List.length_take, HLN.out, Nat.min_eq_left hk, Nat.zero_add] at hbound
      have hp : 16 ^ k ≤ 16 ^ 7 := Nat.pow_le_pow_right (by decide) (by omega)
      have hd := hexD_lt hbk
      have ha := hh.out
      generalize hexA 0 (l.take k) = acc at *
      generalize 16 ^ k = p at *
      have a0 : 0 ≤ a := by omega
      have a1 : a < 268435456 := by omega
      have hc256 := (l.getD k 0).toNat_lt
      unfold hexOk at hbk
      simp only [Bool.or_eq_true, Bool.and_eq_true, decide_eq_true_eq] at hbk
      have hdd : hexD (l.getD k 0) = if (l.getD k 0).toNat ≤ 57 then (l.getD k 0).toNat - 48 else (l.getD k 0).toNat - 87 := rfl
      generalize hexD (l.getD k 0) = d at *
      generalize (l.getD k 0).toNat = x at *
      rcases hbk with ⟨h1, h2⟩ | ⟨h1, h2⟩
      · rw [if_pos h2] at hdd
        have HN : Hid (a * 16 + ((x : Int) - 48) = ((hexA 0 (l.take (k + 1)) : Nat) : Int)) := Lib.hid (by rw [hsn]; omega)
        clear hsn hh ha hbound hp hkl hdd hd
        go_wp2
        go_round
        case rel => exact ⟨k + 1, _, rfl, rfl, by go_num, by omega, HN⟩
        case measure => simp [intOf]; omega
      · rw [if_neg (by omega)] at hdd
        have HN : Hid (a * 16 + (((x : Int) - 97) + 10) = ((hexA 0 (l.take (k + 1)) : Nat) : Int)) := Lib.hid (by rw [hsn]; omega)
        have hor : bits BinOp.or IntKind.u8 (x : Int) 32 = (x : Int) := by
          have : x = 97 ∨ x = 98 ∨ x = 99 ∨ x = 100 ∨ x = 101 ∨ x = 102 := by omega
          rcases this with rfl | rfl | rfl | rfl | rfl | rfl <;> decide
        clear hsn hh ha hbound hp hkl hdd hd
        go_wp2
        go_round
        case rel => exact ⟨k + 1, _, rfl, rfl, by go_num, by omega, HN⟩
        case measure => simp [intOf]; omega
    · obtain rfl : k = 8 := by omega
      have ha := hh.out
      rw [List.take_of_length_le (by rw [HLN.out]; exact Nat.le_refl _)] at ha
      subst ha
      clear hh
      go_wp2
      go_ret2
      exact ⟨rfl, by rw [HB.out]; exact hb0⟩

set_option maxRecDepth 100000 in
theorem hexParse_any (s : ByteArray) (w : World) (hs : s.size = 8) (hok : ∀ b ∈ s.data.toList, hexOk b = true) :
    Calls Tryz.prog 43 #[.string s, .int .i64 16, .int .i64 32] w fun e w' => e = .returned (.tuple #[.int .u64 (hexA 0 s.data.toList : Nat), .nilIface]) ∧ Below w.heap.size w w' := by
  have hL : hexA 0 s.data.toList < 16 ^ (0 + s.data.toList.length) := hexA_lt _ 0 0 hok (by decide)
  have hlen : s.data.toList.length = 8 := by rw [← hs]; simp
  rw [hlen] at hL
  obtain ⟨v, hv⟩ : ∃ v : Int, v = ((hexA 0 s.data.toList : Nat) : Int) := ⟨_, rfl⟩
  have hc := fun W => hexInner_any s W hs hok
  rw [← hv] at hc ⊢
  clear hv hL hlen hok
  go_enter Tryz.func43, Tryz.ntmps43
  go_wp2_with fail
  refine (hc w).mono ?_
  rintro e w1 ⟨rfl, hb⟩
  go_wp2
  go_ret2
  exact ⟨rfl, hb⟩
/-- The sines' text. -/
def sinB : List UInt8 := sinL.flatMap fun x => [x / 268435456, x / 16777216 % 16, x / 1048576 % 16, x / 65536 % 16, x / 4096 % 16, x / 256 % 16, x / 16 % 16, x % 16].map fun d => UInt8.ofNat (if d < 10 then d + 48 else d + 87)
def sinT (i : Nat) : ByteArray := ⟨((sinB.drop (8 * i)).take 8).toArray⟩
theorem sinT_all : ∀ i : Nat, i < 64 → (sinT i).size = 8 ∧ (sinT i).data.toList.all hexOk = true ∧ hexA 0 (sinT i).data.toList = sinN i ∧ sinN i < 4294967296 := by decide +kernel

end Go.Proofs.YtlfeholphngilaaGreatDoor
