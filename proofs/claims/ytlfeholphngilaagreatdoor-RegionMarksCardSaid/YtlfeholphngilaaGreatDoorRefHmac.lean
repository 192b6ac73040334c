/- The reference's Hmac at every key and text. -/
import Derived.Test.YtlfeholphngilaaGreatDoorRefMd5
import Derived.Test.YtlfeholphngilaaGreatDoorRefWith
namespace Go.Proofs.YtlfeholphngilaaGreatDoor
open Go.RowKit
attribute [local go_sem ↓] Go.wp_at_zero Go.wp_at_succ
set_option linter.unusedSimpArgs false
set_option linter.unusedVariables false
set_option maxRecDepth 100000

def keyLen (w : World) (K : Nat) : Nat := match w.cell? ⟨K, 0, none⟩ with | some (.string s) => s.size | _ => 0
theorem ba_two (A B : List UInt8) : (⟨A.toArray⟩ : ByteArray) ++ ⟨B.toArray⟩ = ⟨(A ++ B).toArray⟩ := by
  apply ByteArray.ext
  simp [ByteArray.data_append]
theorem ba_list (s : ByteArray) : s = ⟨s.data.toList.toArray⟩ := by apply ByteArray.ext; simp

set_option maxHeartbeats 6400000 in
theorem refHmac_any (key t : ByteArray) (w : World) (hk : key.size ≤ 1000) (ht : t.size ≤ 100000) :
    Calls Tryz.prog 19 #[.string key, .string t] w fun e w' => e = .returned (.string ⟨(hmacL key.data.toList t.data.toList).toArray⟩) ∧ Below w.heap.size w w' := by
  have hK0 := Blk.new w 9 #[.string key]
  have hB0 : Below w.heap.size w (w.alloc (.cells #[.string key] 9)) := (Below.refl _ _).alloc (Nat.le_refl _) _
  have hs0 : w.heap.size < (w.alloc (.cells #[.string key] 9)).heap.size := by simp
  go_enter Tryz.func19, Tryz.ntmps19
  go_upto_region 1 with (fail)
  generalize w.alloc (.cells #[.string key] 9) = w1 at *
  generalize hKK : w.heap.size = K at *
  have HK := Lib.hid hKK
  clear hKK
  have c0 := hK0.cv 0 (.string key) rfl
  have f0 := hK0.fz 0
  by_cases hlong : 64 < key.size
  · skip
    have hd : decide ((64 : Int) < (key.size : Int)) = true := decide_eq_true (by omega)
    have hdN : decide (64 < key.size) = true := decide_eq_true hlong
    go_wp2_with fail
    refine (refMd5_any key _ (by omega)).mono ?_
    rintro e w2 ⟨rfl, k2⟩
    have hB2 := Blk.below hK0 k2 hs0
    have hBz2 : Below K w w2 := hB0.trans (k2.mono (by omega))
    have c2 := hB2.cv 0 (.string key) rfl
    have f2 := hB2.fz 0
    obtain ⟨kk, hkk⟩ : ∃ kk, kk = md5L key.data.toList := ⟨_, rfl⟩
    rw [← hkk]
    have hkl : kk.length = 16 := by rw [hkk, md5L_len]
    have hkey : keyL key.data.toList = kk ++ List.replicate (64 - kk.length) 0 := by
      unfold keyL
      rw [if_pos (show 64 < key.data.toList.length by simpa using hlong), ← hkk]
    have hset : (#[.string key] : Array Value).setIfInBounds 0 (.string ⟨kk.toArray⟩) = #[.string ⟨kk.toArray⟩] := rfl
    have hKz0 := set_row hB2 hset
    have hBz0 := hBz2.setCell (p := ⟨K, 0, none⟩) (Nat.le_refl K) (.string ⟨kk.toArray⟩)
    have hk64 : kk.length ≤ 64 := by rw [hkl]; omega
    clear hkk hK0 hB0 c0 f0 hB2 hset
    go_wp2_with fail
    generalize w2.setCell ⟨K, 0, none⟩ (.string ⟨kk.toArray⟩) = w3 at *
    have hKz : Blk w3 K 9 #[.string ⟨kk.toArray⟩] := hKz0
    have hBz := hBz0
    clear hKz0 hBz0 hBz2 c2 f2 k2
    go_loopw [11] (fun _ wr => ∃ m : Nat, m ≤ 64 - kk.length ∧ Blk wr K 9 #[.string ⟨(kk ++ List.replicate m 0).toArray⟩] ∧ Below K w wr) (fun _ wr => 64 - keyLen wr K)
    case atStart => exact ⟨0, by omega, by rw [List.replicate_zero, List.append_nil]; exact hKz, hBz⟩
    case round =>
      clear hKz hBz
      obtain ⟨m, hm, hB1, hb⟩ := hrel
      have c0 := hB1.cv 0 (.string ⟨(kk ++ List.replicate m 0).toArray⟩) rfl
      have f0 := hB1.fz 0
      have hszz : (⟨(kk ++ List.replicate m 0).toArray⟩ : ByteArray).size = kk.length + m := by
        show (kk ++ List.replicate m 0).toArray.size = _
        simp
      have hKs := hB1.lt
      by_cases hlt : m < 64 - kk.length
      · have hd1 : decide ((((⟨(kk ++ List.replicate m 0).toArray⟩ : ByteArray).size : Nat) : Int) < 64) = true := decide_eq_true (by rw [hszz]; omega)
        have hd2 : decide ((⟨(kk ++ List.replicate m 0).toArray⟩ : ByteArray).size < 64) = true := decide_eq_true (by rw [hszz]; omega)
        have happ : (⟨(kk ++ List.replicate m 0).toArray⟩ : ByteArray) ++ ⟨#[0]⟩ = ⟨(kk ++ List.replicate (m + 1) 0).toArray⟩ := by rw [ba_app, List.append_assoc, ← List.replicate_succ']
        have hsz2 : (⟨(kk ++ List.replicate (m + 1) 0).toArray⟩ : ByteArray).size = kk.length + (m + 1) := by
          show (kk ++ List.replicate (m + 1) 0).toArray.size = _
          simp
        generalize (⟨(kk ++ List.replicate m 0).toArray⟩ : ByteArray) = S1 at *
        have hset : (#[.string S1] : Array Value).setIfInBounds 0 (.string (S1 ++ ⟨#[0]⟩)) = #[.string (S1 ++ ⟨#[0]⟩)] := rfl
        have hB2 := set_row hB1 hset
        have hb2 := hb.setCell (p := ⟨K, 0, none⟩) (Nat.le_refl K) (.string (S1 ++ ⟨#[0]⟩))
        have hsle : S1.size ≤ 64 := by omega
        have HSZ := Lib.hid hszz
        rw [happ] at hB2 hb2
        clear hB1 hb hszz hset
        go_wp2_with fail
        generalize wr.setCell ⟨K, 0, none⟩ (.string ⟨(kk ++ List.replicate (m + 1) 0).toArray⟩) = w7 at *
        go_roundw
        case rel => exact ⟨m + 1, by omega, hB2, hb2⟩
        case measure =>
          have c7 := Blk.cv (w := w7) hB2 0 _ rfl
          unfold keyLen
          rw [c7, c0]
          show 64 - (⟨(kk ++ List.replicate (m + 1) 0).toArray⟩ : ByteArray).size < 64 - S1.size
          rw [hsz2, HSZ.out]
          omega
      · obtain rfl : m = 64 - kk.length := by omega
        have hd1 : decide ((((⟨(kk ++ List.replicate (64 - kk.length) 0).toArray⟩ : ByteArray).size : Nat) : Int) < 64) = false := decide_eq_false (by rw [hszz]; omega)
        have hd2 : decide ((⟨(kk ++ List.replicate (64 - kk.length) 0).toArray⟩ : ByteArray).size < 64) = false := decide_eq_false (by rw [hszz]; omega)
        rw [← hkey] at c0 hszz hd1 hd2
        have hl64 : (keyL key.data.toList).length = 64 := by rw [hkey, List.length_append, List.length_replicate]; omega
        have hw1 : ∀ W, W.cell? ⟨K, 0, none⟩ = some (.string ⟨(keyL key.data.toList).toArray⟩) → K < W.heap.size → Calls Tryz.prog 27 #[.int .u8 92, .pointer (some ⟨K, 0, none⟩)] W fun e w' => e = .returned (.string ⟨(xorL (keyL key.data.toList) 92).toArray⟩) ∧ Below W.heap.size W w' := fun W a b => refWith_any K ⟨(keyL key.data.toList).toArray⟩ 92 W (by rw [hszz]; omega) a b
        have hw2 : ∀ W, W.cell? ⟨K, 0, none⟩ = some (.string ⟨(keyL key.data.toList).toArray⟩) → K < W.heap.size → Calls Tryz.prog 27 #[.int .u8 54, .pointer (some ⟨K, 0, none⟩)] W fun e w' => e = .returned (.string ⟨(xorL (keyL key.data.toList) 54).toArray⟩) ∧ Below W.heap.size W w' := fun W a b => refWith_any K ⟨(keyL key.data.toList).toArray⟩ 54 W (by rw [hszz]; omega) a b
        have hm1 : hmacL key.data.toList t.data.toList = md5L (xorL (keyL key.data.toList) 92 ++ md5L (xorL (keyL key.data.toList) 54 ++ t.data.toList)) := rfl
        have hx1 : (xorL (keyL key.data.toList) 92).length = 64 := by unfold xorL; rw [List.length_map, hl64]
        have hx2 : (xorL (keyL key.data.toList) 54).length = 64 := by unfold xorL; rw [List.length_map, hl64]
        have HM1 := Lib.hid hm1
        generalize xorL (keyL key.data.toList) 92 = o5 at *
        generalize xorL (keyL key.data.toList) 54 = i3 at *
        generalize keyL key.data.toList = kp at *
        have hin : (⟨i3.toArray⟩ : ByteArray) ++ t = ⟨(i3 ++ t.data.toList).toArray⟩ := by rw [← ba_two, ← ba_list]
        have hMd := fun W => refMd5_any (⟨(i3 ++ t.data.toList).toArray⟩ : ByteArray) W (by
          show (i3 ++ t.data.toList).toArray.size ≤ _
          simp
          rw [hx2]
          have : t.data.size = t.size := rfl
          omega)
        have hMe := fun W => refMd5_any (⟨(o5 ++ md5L (i3 ++ t.data.toList)).toArray⟩ : ByteArray) W (by
          show (o5 ++ md5L (i3 ++ t.data.toList)).toArray.size ≤ _
          simp
          rw [hx1, md5L_len]
          omega)
        simp only [List.toList_toArray] at hMd hMe
        have hs5 : (⟨o5.toArray⟩ : ByteArray).size = 64 := by show o5.toArray.size = _; simpa using hx1
        have hs3 : (⟨i3.toArray⟩ : ByteArray).size = 64 := by show i3.toArray.size = _; simpa using hx2
        have hsm : (⟨(md5L (i3 ++ t.data.toList)).toArray⟩ : ByteArray).size = 16 := by show (md5L (i3 ++ t.data.toList)).toArray.size = _; simpa using md5L_len _
        have hou : (⟨o5.toArray⟩ : ByteArray) ++ ⟨(md5L (i3 ++ t.data.toList)).toArray⟩ = ⟨(o5 ++ md5L (i3 ++ t.data.toList)).toArray⟩ := ba_two _ _
        go_wp2_with fail
        refine (hw1 _ c0 hKs).mono ?_
        rintro e w2 ⟨rfl, k2⟩
        have c2 : w2.cell? ⟨K, 0, none⟩ = some (.string ⟨kp.toArray⟩) := (Blk.below hB1 k2 hKs).cv 0 _ (by rw [hkey]; rfl)
        have hs2 : K < w2.heap.size := Nat.lt_of_lt_of_le hKs k2.size
        go_wp2_with fail
        refine (hw2 _ c2 hs2).mono ?_
        rintro e w3 ⟨rfl, k3⟩
        go_wp2_with fail
        (try rw [hin])
        refine (hMd _).mono ?_
        rintro e w4 ⟨rfl, k4⟩
        go_wp2_with fail
        (try rw [ba_two])
        refine (hMe _).mono ?_
        rintro e w5 ⟨rfl, k5⟩
        go_wp2_with fail
        go_ret
        have hsz := hb.size
        refine ⟨by rw [HM1.out]; rfl, ?_⟩
        rw [HK.out]
        exact (((hb.trans (k2.mono (by omega))).trans (k3.mono (by have := k2.size; omega))).trans (k4.mono (by have := k2.size; have := k3.size; omega))).trans (k5.mono (by have := k2.size; have := k3.size; have := k4.size; omega))
  · have hd : decide ((64 : Int) < (key.size : Int)) = false := decide_eq_false (by omega)
    have hdN : decide (64 < key.size) = false := decide_eq_false hlong
    go_wp2_with fail
    obtain ⟨kk, hkk⟩ : ∃ kk, kk = key.data.toList := ⟨_, rfl⟩
    have hkl : kk.length = key.size := by rw [hkk]; simp
    have hkey : keyL key.data.toList = kk ++ List.replicate (64 - kk.length) 0 := by
      rw [← hkk]
      unfold keyL
      rw [if_neg (by rw [hkl]; exact hlong)]
    have hKz : Blk w1 K 9 #[.string ⟨kk.toArray⟩] := by rw [hkk, ← ba_list]; exact hK0
    have hBz := hB0
    have hk64 : kk.length ≤ 64 := by rw [hkl]; omega
    clear hkk hK0 hB0 c0 f0
    go_loopw [11] (fun _ wr => ∃ m : Nat, m ≤ 64 - kk.length ∧ Blk wr K 9 #[.string ⟨(kk ++ List.replicate m 0).toArray⟩] ∧ Below K w wr) (fun _ wr => 64 - keyLen wr K)
    case atStart => exact ⟨0, by omega, by rw [List.replicate_zero, List.append_nil]; exact hKz, hBz⟩
    case round =>
      clear hKz hBz
      obtain ⟨m, hm, hB1, hb⟩ := hrel
      have c0 := hB1.cv 0 (.string ⟨(kk ++ List.replicate m 0).toArray⟩) rfl
      have f0 := hB1.fz 0
      have hszz : (⟨(kk ++ List.replicate m 0).toArray⟩ : ByteArray).size = kk.length + m := by
        show (kk ++ List.replicate m 0).toArray.size = _
        simp
      have hKs := hB1.lt
      by_cases hlt : m < 64 - kk.length
      · have hd1 : decide ((((⟨(kk ++ List.replicate m 0).toArray⟩ : ByteArray).size : Nat) : Int) < 64) = true := decide_eq_true (by rw [hszz]; omega)
        have hd2 : decide ((⟨(kk ++ List.replicate m 0).toArray⟩ : ByteArray).size < 64) = true := decide_eq_true (by rw [hszz]; omega)
        have happ : (⟨(kk ++ List.replicate m 0).toArray⟩ : ByteArray) ++ ⟨#[0]⟩ = ⟨(kk ++ List.replicate (m + 1) 0).toArray⟩ := by rw [ba_app, List.append_assoc, ← List.replicate_succ']
        have hsz2 : (⟨(kk ++ List.replicate (m + 1) 0).toArray⟩ : ByteArray).size = kk.length + (m + 1) := by
          show (kk ++ List.replicate (m + 1) 0).toArray.size = _
          simp
        generalize (⟨(kk ++ List.replicate m 0).toArray⟩ : ByteArray) = S1 at *
        have hset : (#[.string S1] : Array Value).setIfInBounds 0 (.string (S1 ++ ⟨#[0]⟩)) = #[.string (S1 ++ ⟨#[0]⟩)] := rfl
        have hB2 := set_row hB1 hset
        have hb2 := hb.setCell (p := ⟨K, 0, none⟩) (Nat.le_refl K) (.string (S1 ++ ⟨#[0]⟩))
        have hsle : S1.size ≤ 64 := by omega
        have HSZ := Lib.hid hszz
        rw [happ] at hB2 hb2
        clear hB1 hb hszz hset
        go_wp2_with fail
        generalize wr.setCell ⟨K, 0, none⟩ (.string ⟨(kk ++ List.replicate (m + 1) 0).toArray⟩) = w7 at *
        go_roundw
        case rel => exact ⟨m + 1, by omega, hB2, hb2⟩
        case measure =>
          have c7 := Blk.cv (w := w7) hB2 0 _ rfl
          unfold keyLen
          rw [c7, c0]
          show 64 - (⟨(kk ++ List.replicate (m + 1) 0).toArray⟩ : ByteArray).size < 64 - S1.size
          rw [hsz2, HSZ.out]
          omega
      · obtain rfl : m = 64 - kk.length := by omega
        have hd1 : decide ((((⟨(kk ++ List.replicate (64 - kk.length) 0).toArray⟩ : ByteArray).size : Nat) : Int) < 64) = false := decide_eq_false (by rw [hszz]; omega)
        have hd2 : decide ((⟨(kk ++ List.replicate (64 - kk.length) 0).toArray⟩ : ByteArray).size < 64) = false := decide_eq_false (by rw [hszz]; omega)
        rw [← hkey] at c0 hszz hd1 hd2
        have hl64 : (keyL key.data.toList).length = 64 := by rw [hkey, List.length_append, List.length_replicate]; omega
        have hw1 : ∀ W, W.cell? ⟨K, 0, none⟩ = some (.string ⟨(keyL key.data.toList).toArray⟩) → K < W.heap.size → Calls Tryz.prog 27 #[.int .u8 92, .pointer (some ⟨K, 0, none⟩)] W fun e w' => e = .returned (.string ⟨(xorL (keyL key.data.toList) 92).toArray⟩) ∧ Below W.heap.size W w' := fun W a b => refWith_any K ⟨(keyL key.data.toList).toArray⟩ 92 W (by rw [hszz]; omega) a b
        have hw2 : ∀ W, W.cell? ⟨K, 0, none⟩ = some (.string ⟨(keyL key.data.toList).toArray⟩) → K < W.heap.size → Calls Tryz.prog 27 #[.int .u8 54, .pointer (some ⟨K, 0, none⟩)] W fun e w' => e = .returned (.string ⟨(xorL (keyL key.data.toList) 54).toArray⟩) ∧ Below W.heap.size W w' := fun W a b => refWith_any K ⟨(keyL key.data.toList).toArray⟩ 54 W (by rw [hszz]; omega) a b
        have hm1 : hmacL key.data.toList t.data.toList = md5L (xorL (keyL key.data.toList) 92 ++ md5L (xorL (keyL key.data.toList) 54 ++ t.data.toList)) := rfl
        have hx1 : (xorL (keyL key.data.toList) 92).length = 64 := by unfold xorL; rw [List.length_map, hl64]
        have hx2 : (xorL (keyL key.data.toList) 54).length = 64 := by unfold xorL; rw [List.length_map, hl64]
        have HM1 := Lib.hid hm1
        generalize xorL (keyL key.data.toList) 92 = o5 at *
        generalize xorL (keyL key.data.toList) 54 = i3 at *
        generalize keyL key.data.toList = kp at *
        have hin : (⟨i3.toArray⟩ : ByteArray) ++ t = ⟨(i3 ++ t.data.toList).toArray⟩ := by rw [← ba_two, ← ba_list]
        have hMd := fun W => refMd5_any (⟨(i3 ++ t.data.toList).toArray⟩ : ByteArray) W (by
          show (i3 ++ t.data.toList).toArray.size ≤ _
          simp
          rw [hx2]
          have : t.data.size = t.size := rfl
          omega)
        have hMe := fun W => refMd5_any (⟨(o5 ++ md5L (i3 ++ t.data.toList)).toArray⟩ : ByteArray) W (by
          show (o5 ++ md5L (i3 ++ t.data.toList)).toArray.size ≤ _
          simp
          rw [hx1, md5L_len]
          omega)
        simp only [List.toList_toArray] at hMd hMe
        have hs5 : (⟨o5.toArray⟩ : ByteArray).size = 64 := by show o5.toArray.size = _; simpa using hx1
        have hs3 : (⟨i3.toArray⟩ : ByteArray).size = 64 := by show i3.toArray.size = _; simpa using hx2
        have hsm : (⟨(md5L (i3 ++ t.data.toList)).toArray⟩ : ByteArray).size = 16 := by show (md5L (i3 ++ t.data.toList)).toArray.size = _; simpa using md5L_len _
        have hou : (⟨o5.toArray⟩ : ByteArray) ++ ⟨(md5L (i3 ++ t.data.toList)).toArray⟩ = ⟨(o5 ++ md5L (i3 ++ t.data.toList)).toArray⟩ := ba_two _ _
        go_wp2_with fail
        refine (hw1 _ c0 hKs).mono ?_
        rintro e w2 ⟨rfl, k2⟩
        have c2 : w2.cell? ⟨K, 0, none⟩ = some (.string ⟨kp.toArray⟩) := (Blk.below hB1 k2 hKs).cv 0 _ (by rw [hkey]; rfl)
        have hs2 : K < w2.heap.size := Nat.lt_of_lt_of_le hKs k2.size
        go_wp2_with fail
        refine (hw2 _ c2 hs2).mono ?_
        rintro e w3 ⟨rfl, k3⟩
        go_wp2_with fail
        (try rw [hin])
        refine (hMd _).mono ?_
        rintro e w4 ⟨rfl, k4⟩
        go_wp2_with fail
        (try rw [ba_two])
        refine (hMe _).mono ?_
        rintro e w5 ⟨rfl, k5⟩
        go_wp2_with fail
        go_ret
        have hsz := hb.size
        refine ⟨by rw [HM1.out]; rfl, ?_⟩
        rw [HK.out]
        exact (((hb.trans (k2.mono (by omega))).trans (k3.mono (by have := k2.size; omega))).trans (k4.mono (by have := k2.size; have := k3.size; omega))).trans (k5.mono (by have := k2.size; have := k3.size; have := k4.size; omega))

end Go.Proofs.YtlfeholphngilaaGreatDoor
