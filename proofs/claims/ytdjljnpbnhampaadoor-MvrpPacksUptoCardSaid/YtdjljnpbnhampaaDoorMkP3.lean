/- Texts one behind the other. 16.3: the reference's MvrpPack at every list of VIDs. A region that draws its order: a load that must come before the region's own store to the same place. Ahead of an operation of D a fact S holds at every world; from it on nothing is asked. A region that draws its order: loads that must come before the region's own stores to the same place (S), beside loads of what the region leaves as it was (T): ahead of an operation of D both hold, behind it T alone. 16.3: mvrp.Pack at every list of VIDs. Both Packs beside each other. 16.3: all VIDs with their events, by the reference. switchyardlaw.much: more than can be held. Addresses as texts, and their order: plain lists, nothing of the program. Names and vectors as lists of numbers, and their order: plain lists, nothing of the program. The text of a bridge's name, and what is guessed from a text: plain lists, nothing of the program. (apart: prB, prB_all, okB) Names as bytes, and their order: plain lists, nothing of the program. 9.1, 9.2: flags and BPDUs plainly: nothing of the program. 12.1, 12.2: messages of many trees plainly: nothing of the program. -/
import Derived.Test.YtdjljnpbnhampaaDoorMkP1
import Derived.Test.YtdjljnpbnhampaaDoorMkP2
import Derived.Test.YtdjljnpbnhampaaDoorRpS
import Derived.Deep.RegionHeld3
import Derived.Deep.CutBlock
import Derived.Deep.CutRange
import Derived.Test.YtdjljnpbnhampaaDoorBlk
import Derived.Test.YtdjljnpbnhampaaDoorMvEach
import Derived.Test.YtdjljnpbnhampaaDoorMvWrite
import Derived.Lib.Bytealg
import GoSem.Op.String
import Derived.Test.YtdjljnpbnhampaaDoorNum
import Derived.Test.YtdjljnpbnhampaaDoorFitP
namespace Go.Proofs.YtdjljnpbnhampaaDoor
open Go.RowKit
attribute [local go_sem ↓] Go.wp_at_zero Go.wp_at_succ
set_option linter.unusedSimpArgs false
set_option linter.unusedVariables false
set_option maxRecDepth 100000

theorem results_tmp_blkP {P : Program} {fn : Func} {tmps : Array Value} {w : World} {a t u B : Nat} {T : TypeId} {X : Array Value} (h : fn.results = #[.tmp u, .cell a t]) (ha : tmps.getD a undef = .pointer (some ⟨B, 0, none⟩)) (hB : Blk w B T X)
    (hu : (match P.underlying t with | some (.struct _) | some (.array _ _) => true | _ => false) = true) (hn : (P.info? t).map (·.size) = some X.size) : (results fn tmps).run P w = .ok (.tuple #[tmps.getD u undef, .agg X]) w := by
  have h1 := run_load_blk (P := P) w B 0 T t X X hB hu hn (by rw [List.drop_zero]; exact List.take_of_length_le (by simp))
  rw [Array.getD_eq_getD_getElem?] at ha
  simp only [results, h]
  simp [ha, asAddr, h1]

def slLen (v : Value) : Nat := match v with | .slice _ n _ => n | _ => 0

theorem okPrB_two (p : Pr) : okPrB p = ((decide (1 ≤ p.vid) && decide (p.vid ≤ 4094)) && okE5 p.ev) := by unfold okPrB; rw [Bool.and_assoc]

/-- What is answered. -/
def RkRes (w' : World) (base : Nat) (v : Value) (ps : List Pr) (e0 : Int) : Prop := (e0 = 0 ∧ ∃ hs, xs hs = mpkL ps ∧ OwnAs w' base v hs) ∨ (e0 ≠ 0 ∧ v = .slice none 0 0)

/-- What holds ahead of each run. -/
def RkInv (w : World) (base b lo c : Nat) (ps : List Pr) (v0 v4 : Value) (wr : World) : Prop := ∃ (i r : Nat) (a' : Option Addr) (c' : Nat) (hs : List MvH) (v : Value), v = v4 ∧ i + r = ps.length ∧ v0 = .slice a' r c' ∧ r ≤ c' ∧ c' ≤ c ∧ (0 < r → a' = some ⟨b, lo + i * 2, none⟩) ∧ (0 < r → NoGo (mpkL (ps.take i)) (vidN ps i)) ∧
  xs hs = mpkL (ps.take i) ∧ OwnAs wr base v hs ∧ Blk wr base 37 (ftC 0 0) ∧ Below base w wr


theorem refPack_nil (a : Option Addr) (c : Nat) (w : World) :
    Calls Tryd.prog 16 #[.slice a 0 c] w fun e w' => e = .returned (.tuple #[.slice none 0 0, .agg (ftC 0 (-1))]) ∧ Below w.heap.size w w' := by
  have HZ := Blk.new w 37 (ftC 0 0)
  have B0 : Below w.heap.size w (w.alloc (.cells (ftC 0 0) 37)) := (Below.refl _ _).alloc (Nat.le_refl _) _
  go_enter Tryd.func16, Tryd.ntmps16
  go_upto_region 2 with (refine alloc_blk 37 (ftC 0 0) (by rfl) rfl Tryd.ftZero ?_)
  generalize w.alloc (.cells (ftC 0 0) 37) = w1 at *
  go_wp2_with fail
  go_loopw [12] (fun i wr => i = .int .i64 (0 : Int) ∧ wr = w1) (fun i _ => 0)
  case atStart => exact ⟨rfl, rfl⟩
  case round =>
    obtain ⟨rfl, hw⟩ := hrel
    replace hw := hw.symm
    subst hw
    go_wp2_with fail
    go_loopw [0, 4] (fun v v4 wx => v = .slice a 0 c ∧ v4 = .slice none 0 0 ∧ wx = w1) (fun v _ _ => 0)
    case atStart => exact ⟨rfl, rfl, rfl⟩
    case round =>
      obtain ⟨rfl, rfl, hw⟩ := hrel
      replace hw := hw.symm
      subst hw
      go_wp2_with fail
      refine (good_any _).mono ?_
      rintro e w6 ⟨rfl, b6⟩
      have HZ6 := HZ.kept b6
      have B6 := B0.trans (b6.mono B0.size)
      go_wp2_with (refine store_blk (k := 0) 37 (.agg (ftC 0 (-1))) (ftC 0 (-1)) (by rfl) rfl rfl rfl HZ6 (by kernel_rfl) (by exact Nat.le_refl 2) rfl rfl (fun w7 H7 b7 g7 => ?_))
      exact bodyPost_ret (results_tmp_blkP rfl rfl H7 (by kernel_rfl) (by kernel_rfl)) rfl ⟨rfl, B6.trans (b7.mono (Nat.le_refl _))⟩

set_option maxHeartbeats 12800000 in
theorem refPack_some (b lo c : Nat) (ps : List Pr) (hlo : 0 < ps.length) (m : Nat) (hm : m ≤ ps.length) (hok : ∀ (k : Nat) (hk : k < ps.length), k < m → badP ps k ps[k] = 0) (e0 pl : Int)
    (hend : (m = ps.length ∧ e0 = 0 ∧ pl = -1) ∨ (∃ hk : m < ps.length, badP ps m ps[m] = e0 ∧ e0 ≠ 0 ∧ pl = m)) (w : World) (hbl : b < w.heap.size) (hat0 : PrAt w b lo ps) (hl : ps.length ≤ 1000) (hlc : ps.length ≤ c) (hcm : c ≤ 9223372036854775807) :
    Calls Tryd.prog 16 #[.slice (some ⟨b, lo, none⟩) ps.length c] w fun e w' => ∃ v, e = .returned (.tuple #[v, .agg (ftC e0 pl)]) ∧ RkRes w' w.heap.size v ps e0 ∧ Below w.heap.size w w' := by
  have HZ := Blk.new w 37 (ftC 0 0)
  have B0 : Below w.heap.size w (w.alloc (.cells (ftC 0 0) 37)) := (Below.refl _ _).alloc (Nat.le_refl _) _
  have HOK := Lib.hid hok
  have HEND := Lib.hid hend
  have HA0 := Lib.hid hat0
  clear hok hend hat0
  obtain ⟨base, hbase⟩ : ∃ base, w.heap.size = base := ⟨_, rfl⟩
  rw [hbase] at HZ B0 hbl ⊢
  go_enter Tryd.func16, Tryd.ntmps16
  go_upto_region 2 with (refine alloc_blk 37 (ftC 0 0) (by rfl) rfl Tryd.ftZero ?_)
  generalize w.alloc (.cells (ftC 0 0) 37) = w1 at *
  go_wp2_with fail
  go_loopw [12] (fun i wr => ∃ k : Nat, k ≤ m ∧ i = .int .i64 k ∧ Blk wr base 37 (ftC 0 0) ∧ Below base w wr) (fun i _ => ps.length - (intOf i).toNat)
  case atStart => exact ⟨0, by omega, rfl, HZ, B0⟩
  case round =>
    obtain ⟨k, hk, rfl, HZk, Bk⟩ := hrel
    clear HZ B0
    by_cases hlt : k < ps.length
    · have hat : PrAt wr b lo ps := HA0.out.below Bk hbl
      have q1 : (k : Int) < (ps.length : Int) := by omega
      have q2 : decide ((k : Int) < (ps.length : Int)) = true := decide_eq_true q1
      have q3 : (0 : Int) ≤ (k : Int) := by omega
      have q4 : IntKind.i64.wrap ((k : Int) + 1) = (k : Int) + 1 := by rw [IntKind.wrap_i64] <;> omega
      have KV : wr.cell? ⟨b, lo + k * 2, none⟩ = some (.int .i64 ps[k].vid) := hat k hlt 0 _ rfl
      have KE : wr.cell? ⟨b, lo + k * 2 + 1, none⟩ = some (.int .i64 ps[k].ev) := hat k hlt 1 _ rfl
      have HPV : Hid (∀ j, k = j + 1 → wr.cell? ⟨b, lo + j * 2, none⟩ = some (.int .i64 (vidN ps j))) := fun j e => by
        have hj : j < ps.length := by omega
        have q := hat j hj 0 (.int .i64 ps[j].vid) rfl
        rw [Nat.add_zero] at q
        rw [vidN_get hj]
        exact q
      have HBD : Hid (badP ps k ps[k] = 0 ∨ k = m) := by
        show _ ∨ _
        by_cases e : k = m
        · exact Or.inr e
        · exact Or.inl (HOK.out k hlt (by omega))
      have HEN : Hid (k = m → badP ps k ps[k] = e0 ∧ e0 ≠ 0 ∧ pl = k) := fun e => by
        subst e
        rcases HEND.out with ⟨r1, _⟩ | ⟨_, r2, r3, r4⟩
        · omega
        · exact ⟨r2, r3, r4⟩
      have HKM : Hid (badP ps k ps[k] = 0 → k + 1 ≤ m) := fun e => by
        by_cases e1 : k = m
        · have := HEN.out e1
          omega
        · omega
      have HB0 : Hid (badP ps k ps[k] = if 0 < k ∧ ps[k].vid ≤ vidN ps (k - 1) then 10 else if okPrB ps[k] then 0 else 1) := by
        show _ = _
        unfold badP
        rfl
      have hbw : b < wr.heap.size := Nat.lt_of_lt_of_le hbl (by rw [← hbase]; rw [← hbase] at Bk; exact Bk.size)
      have hsw : base ≤ wr.heap.size := by rw [← hbase]; rw [← hbase] at Bk; exact Bk.size
      generalize badP ps k ps[k] = bp at *
      generalize ps[k] = p at *
      clear hat HOK HEND HA0
      have HW1 : Hid (∀ W, Calls Tryd.prog 33 #[.int .i64 p.vid, .int .i64 1, .int .i64 4094] W fun e w' => e = .returned (.bool (decide (1 ≤ p.vid) && decide (p.vid ≤ 4094))) ∧ Below W.heap.size W w') := fun W => withinM _ 1 4094 W
      have HW2 : Hid (∀ W, Calls Tryd.prog 33 #[.int .i64 p.ev, .int .i64 0, .int .i64 5] W fun e w' => e = .returned (.bool (okE5 p.ev)) ∧ Below W.heap.size W w') := fun W => withinM _ 0 5 W
      have HTW := Lib.hid (okPrB_two p)
      generalize (decide (1 ≤ p.vid) && decide (p.vid ≤ 4094)) = b1 at *
      generalize okE5 p.ev = b2 at *
      by_cases hk0 : k = 0
      · have hbq : bp = if okPrB p then 0 else 1 := by rw [HB0.out, if_neg (by omega)]
        have dk : decide ((0 : Int) < (k : Int)) = false := decide_eq_false (by omega)
        have dkN : decide (0 < k) = false := decide_eq_false (by omega)
        replace hk0 := Lib.hid hk0
        clear HB0 HPV
        go_upto_region 5 with (fail)
        refine wp_region_noPanic ?_
        refine wp_region_held_drew (S := (fun _ => True)) (by kernel_rfl) ?_ (fun hHeld => ?_)
        · exact trivial
        refine wpAnyH_take (i := 0) (v := ?_) rfl (by kernel_rfl) (by kernel_rfl) (by kernel_rfl) (fun _ _ _ h => h) (Or.inl ⟨by rfl, ?_⟩) (by assumption) ?_
        rotate_left
        · (intro w hSw; (try dsimp only at hSw); go_simp; (try with_reducible rfl))
        (try simp only [Act.put, List.getElem_toArray, List.getElem_cons_zero, List.getElem_cons_succ, List.setIfInBounds_toArray, List.set_cons_zero, List.set_cons_succ])
        refine wpAnyH_take (i := 1) (v := ?_) rfl (by kernel_rfl) (by kernel_rfl) (by kernel_rfl) (fun _ _ _ h => h) (Or.inl ⟨by rfl, ?_⟩) (by assumption) ?_
        rotate_left
        · (intro w hSw; (try dsimp only at hSw); go_simp; (try with_reducible rfl))
        (try simp only [Act.put, List.getElem_toArray, List.getElem_cons_zero, List.getElem_cons_succ, List.setIfInBounds_toArray, List.set_cons_zero, List.set_cons_succ])
        refine wpAnyH_take (i := 2) (v := ?_) rfl (by kernel_rfl) (by kernel_rfl) (by kernel_rfl) (fun _ _ _ h => h) (Or.inl ⟨by rfl, ?_⟩) (by assumption) ?_
        rotate_left
        · (intro w hSw; (try dsimp only at hSw); go_simp; (try with_reducible rfl))
        (try simp only [Act.put, List.getElem_toArray, List.getElem_cons_zero, List.getElem_cons_succ, List.setIfInBounds_toArray, List.set_cons_zero, List.set_cons_succ])
        refine wpAnyH_take (i := 3) (v := undef) rfl (by kernel_rfl) (by kernel_rfl) (by kernel_rfl) (fun _ _ _ h => h) (Or.inr ⟨by rfl, rfl⟩) (by assumption) ?_
        (try simp only [Act.put, List.getElem_toArray, List.getElem_cons_zero, List.getElem_cons_succ, List.setIfInBounds_toArray, List.set_cons_zero, List.set_cons_succ])
        refine wpAnyH_take (i := 4) (v := undef) rfl (by kernel_rfl) (by kernel_rfl) (by kernel_rfl) (fun _ _ _ h => h) (Or.inr ⟨by rfl, rfl⟩) (by assumption) ?_
        (try simp only [Act.put, List.getElem_toArray, List.getElem_cons_zero, List.getElem_cons_succ, List.setIfInBounds_toArray, List.set_cons_zero, List.set_cons_succ])
        refine wpAnyH_take (i := 5) (v := undef) rfl (by kernel_rfl) (by kernel_rfl) (by kernel_rfl) (fun _ _ _ h => h) (Or.inr ⟨by rfl, rfl⟩) (by assumption) ?_
        (try simp only [Act.put, List.getElem_toArray, List.getElem_cons_zero, List.getElem_cons_succ, List.setIfInBounds_toArray, List.set_cons_zero, List.set_cons_succ])
        refine wpAnyH_take (i := 6) (v := undef) rfl (by kernel_rfl) (by kernel_rfl) (by kernel_rfl) (fun _ _ _ h => h) (Or.inr ⟨by rfl, rfl⟩) (by assumption) ?_
        (try simp only [Act.put, List.getElem_toArray, List.getElem_cons_zero, List.getElem_cons_succ, List.setIfInBounds_toArray, List.set_cons_zero, List.set_cons_succ])
        refine wpAnyH_take (i := 7) (v := undef) rfl (by kernel_rfl) (by kernel_rfl) (by kernel_rfl) (fun _ _ _ h => h) (Or.inr ⟨by rfl, rfl⟩) (by assumption) ?_
        (try simp only [Act.put, List.getElem_toArray, List.getElem_cons_zero, List.getElem_cons_succ, List.setIfInBounds_toArray, List.set_cons_zero, List.set_cons_succ])
        refine wpAnyH_take (i := 8) (v := undef) rfl (by kernel_rfl) (by kernel_rfl) (by kernel_rfl) (fun _ _ _ h => h) (Or.inr ⟨by rfl, rfl⟩) (by assumption) ?_
        (try simp only [Act.put, List.getElem_toArray, List.getElem_cons_zero, List.getElem_cons_succ, List.setIfInBounds_toArray, List.set_cons_zero, List.set_cons_succ])
        refine wpAnyH_take (i := 9) (v := undef) rfl (by kernel_rfl) (by kernel_rfl) (by kernel_rfl) (fun _ _ _ h => h) (Or.inr ⟨by rfl, rfl⟩) (by assumption) ?_
        (try simp only [Act.put, List.getElem_toArray, List.getElem_cons_zero, List.getElem_cons_succ, List.setIfInBounds_toArray, List.set_cons_zero, List.set_cons_succ])
        refine wpAnyH_take (i := 10) (v := undef) rfl (by kernel_rfl) (by kernel_rfl) (by kernel_rfl) (fun _ _ _ h => h) (Or.inr ⟨by rfl, rfl⟩) (by assumption) ?_
        (try simp only [Act.put, List.getElem_toArray, List.getElem_cons_zero, List.getElem_cons_succ, List.setIfInBounds_toArray, List.set_cons_zero, List.set_cons_succ])
        refine wpAnyH_take (i := 11) (v := undef) rfl (by kernel_rfl) (by kernel_rfl) (by kernel_rfl) (fun _ _ _ h => h) (Or.inr ⟨by rfl, rfl⟩) (by assumption) ?_
        (try simp only [Act.put, List.getElem_toArray, List.getElem_cons_zero, List.getElem_cons_succ, List.setIfInBounds_toArray, List.set_cons_zero, List.set_cons_succ])
        refine wpAnyH_take (i := 12) (v := undef) rfl (by kernel_rfl) (by kernel_rfl) (by kernel_rfl) (fun _ _ _ h => h) (Or.inr ⟨by rfl, rfl⟩) (by assumption) ?_
        (try simp only [Act.put, List.getElem_toArray, List.getElem_cons_zero, List.getElem_cons_succ, List.setIfInBounds_toArray, List.set_cons_zero, List.set_cons_succ])
        refine wpAnyH_take (i := 13) (v := undef) rfl (by kernel_rfl) (by kernel_rfl) (by kernel_rfl) (fun _ _ _ h => h) (Or.inr ⟨by rfl, rfl⟩) (by assumption) ?_
        (try simp only [Act.put, List.getElem_toArray, List.getElem_cons_zero, List.getElem_cons_succ, List.setIfInBounds_toArray, List.set_cons_zero, List.set_cons_succ])
        refine wpAnyH_take (i := 14) (v := undef) rfl (by kernel_rfl) (by kernel_rfl) (by kernel_rfl) (fun _ _ _ h => h) (Or.inr ⟨by rfl, rfl⟩) (by assumption) ?_
        (try simp only [Act.put, List.getElem_toArray, List.getElem_cons_zero, List.getElem_cons_succ, List.setIfInBounds_toArray, List.set_cons_zero, List.set_cons_succ])
        refine wpAnyH_take (i := 15) (v := ?_) rfl (by kernel_rfl) (by kernel_rfl) (by kernel_rfl) (fun _ _ _ h => h) (Or.inl ⟨by rfl, ?_⟩) (by assumption) ?_
        rotate_left
        · (intro w hSw; (try dsimp only at hSw); go_simp; (try with_reducible rfl))
        (try simp only [Act.put, List.getElem_toArray, List.getElem_cons_zero, List.getElem_cons_succ, List.setIfInBounds_toArray, List.set_cons_zero, List.set_cons_succ])
        refine wpAnyH_done (by kernel_rfl) ?_ _
        refine NoPanic.normal ?_
        have KVd : wr.drew.cell? ⟨b, lo + k * 2, none⟩ = some (.int .i64 p.vid) := KV
        have HZd := HZk.drew
        have Bd := Bk.drew
        have hsd : base ≤ wr.drew.heap.size := hsw
        have hbd : b < wr.drew.heap.size := hbw
        have KEd : wr.drew.cell? ⟨b, lo + k * 2 + 1, none⟩ = some (.int .i64 p.ev) := KE
        clear KV KE HZk Bk hsw hbw
        generalize wr.drew = wd at *
        cases b1 with
        | false =>
          have hbad : okPrB p = false := by rw [HTW.out]; rfl
          rw [hbad] at hbq
          obtain ⟨hen1, _, rfl⟩ := HEN.out (HBD.out.resolve_left (fun q => by rw [hbq] at q; exact absurd q (by decide)))
          obtain rfl : e0 = 1 := by rw [← hen1, hbq]; rfl
          clear HEN HBD HKM hen1 hbad HTW HW2
          go_wp2_with (first
            | (go_at_call 33; refine (HW1.out _).mono ?_; rintro e w2 ⟨rfl, k2⟩; have HZ2 := HZd.kept k2; have B2 := Bd.trans (k2.mono hsd))
            | (refine build_blk (t := 37) (ftC 1 k) (by rfl) rfl (by kernel_rfl) ?_)
            | (refine store_blk (k := 0) 37 (.agg (ftC 1 k)) (ftC 1 k) (by rfl) rfl rfl rfl HZ2 (by kernel_rfl) (by exact Nat.le_refl 2) rfl rfl (fun w9 H9 b9 g9 => ?_)))
          exact bodyPost_ret (results_tmp_blkP rfl rfl H9 (by kernel_rfl) (by kernel_rfl)) rfl ⟨_, rfl, Or.inr ⟨by decide, rfl⟩, B2.trans (b9.mono (Nat.le_refl _))⟩
        | true =>
          cases b2 with
          | false =>
            have hbad : okPrB p = false := by rw [HTW.out]; rfl
            rw [hbad] at hbq
            obtain ⟨hen1, _, rfl⟩ := HEN.out (HBD.out.resolve_left (fun q => by rw [hbq] at q; exact absurd q (by decide)))
            obtain rfl : e0 = 1 := by rw [← hen1, hbq]; rfl
            clear HEN HBD HKM hen1 hbad HTW
            go_wp2_with (first
              | (go_at_call 33; (have _ := k2); refine (HW2.out _).mono ?_; rintro e w3 ⟨rfl, k3⟩; have HZ3 := (HZd.kept k2).kept k3; have B3 := Bd.trans ((k2.trans (k3.mono k2.size)).mono hsd))
              | (go_at_call 33; refine (HW1.out _).mono ?_; rintro e w2 ⟨rfl, k2⟩; have KE2 := (k2.cell (p := ⟨b, lo + k * 2 + 1, none⟩) hbd).trans KEd)
              | (refine build_blk (t := 37) (ftC 1 k) (by rfl) rfl (by kernel_rfl) ?_)
              | (refine store_blk (k := 0) 37 (.agg (ftC 1 k)) (ftC 1 k) (by rfl) rfl rfl rfl HZ3 (by kernel_rfl) (by exact Nat.le_refl 2) rfl rfl (fun w9 H9 b9 g9 => ?_)))
            exact bodyPost_ret (results_tmp_blkP rfl rfl H9 (by kernel_rfl) (by kernel_rfl)) rfl ⟨_, rfl, Or.inr ⟨by decide, rfl⟩, B3.trans (b9.mono (Nat.le_refl _))⟩
          | true =>
            have hgd : okPrB p = true := by rw [HTW.out]; rfl
            rw [hgd, if_pos rfl] at hbq
            have hkm := Lib.hid (HKM.out hbq)
            clear HEN HBD HKM hgd HTW
            go_wp2_with (first
              | (go_at_call 33; (have _ := k2); refine (HW2.out _).mono ?_; rintro e w3 ⟨rfl, k3⟩; have HZ3 := (HZd.kept k2).kept k3; have B3 := Bd.trans ((k2.trans (k3.mono k2.size)).mono hsd))
              | (go_at_call 33; refine (HW1.out _).mono ?_; rintro e w2 ⟨rfl, k2⟩; have KE2 := (k2.cell (p := ⟨b, lo + k * 2 + 1, none⟩) hbd).trans KEd))
            go_roundw
            case rel => exact ⟨k + 1, hkm.out, by go_num, HZ3, B3⟩
            case measure => simp [intOf]; omega
      · obtain ⟨j, hj⟩ : ∃ j, k = j + 1 := ⟨k - 1, by omega⟩
        have HV := HPV.out j hj
        obtain ⟨pv, hpv⟩ : ∃ pv, vidN ps j = pv := ⟨_, rfl⟩
        rw [hpv] at HV
        have hb2 : bp = if p.vid ≤ pv then 10 else if okPrB p then 0 else 1 := by
          rw [HB0.out, show k - 1 = j by omega, hpv]
          by_cases q : p.vid ≤ pv
          · rw [if_pos ⟨by omega, q⟩, if_pos q]
          · rw [if_neg (fun r => q r.2), if_neg q]
        have dk : decide ((0 : Int) < (k : Int)) = true := decide_eq_true (by omega)
        have dkN : decide (0 < k) = true := decide_eq_true (by omega)
        have dj : IntKind.i64.wrap ((k : Int) - 1) = (j : Int) := by rw [IntKind.wrap_i64] <;> omega
        have dj2 : (j : Int) < (ps.length : Int) := by omega
        have dj3 : (0 : Int) ≤ (j : Int) := by omega
        replace hj := Lib.hid hj
        clear HB0 HPV hpv
        by_cases hord : p.vid ≤ pv
        · have dv : decide (p.vid ≤ pv) = true := decide_eq_true hord
          rw [if_pos hord] at hb2
          obtain ⟨hen1, _, rfl⟩ := HEN.out (HBD.out.resolve_left (fun q => by rw [hb2] at q; exact absurd q (by decide)))
          obtain rfl : e0 = 10 := by rw [← hen1, hb2]
          clear HEN HBD HKM hen1
          go_upto_region 5 with (fail)
          refine wp_region_noPanic ?_
          refine wp_region_held_drew (S := (fun w' => w'.cell? ⟨b, lo + k * 2, none⟩ = some (.int .i64 p.vid) ∧ w'.cell? ⟨b, lo + j * 2, none⟩ = some (.int .i64 pv))) (by kernel_rfl) ?_ (fun hHeld => ?_)
          · exact ⟨KV, HV⟩
          refine wpAnyH_take (i := 0) (v := ?_) rfl (by kernel_rfl) (by kernel_rfl) (by kernel_rfl) (fun _ _ _ h => h) (Or.inl ⟨by rfl, ?_⟩) (by assumption) ?_
          rotate_left
          · (intro w hSw; (try dsimp only at hSw); go_simp; (try with_reducible rfl))
          (try simp only [Act.put, List.getElem_toArray, List.getElem_cons_zero, List.getElem_cons_succ, List.setIfInBounds_toArray, List.set_cons_zero, List.set_cons_succ])
          refine wpAnyH_take (i := 1) (v := ?_) rfl (by kernel_rfl) (by kernel_rfl) (by kernel_rfl) (fun _ _ _ h => h) (Or.inl ⟨by rfl, ?_⟩) (by assumption) ?_
          rotate_left
          · (intro w hSw; (try dsimp only at hSw); go_simp; (try with_reducible rfl))
          (try simp only [Act.put, List.getElem_toArray, List.getElem_cons_zero, List.getElem_cons_succ, List.setIfInBounds_toArray, List.set_cons_zero, List.set_cons_succ])
          refine wpAnyH_take (i := 2) (v := ?_) rfl (by kernel_rfl) (by kernel_rfl) (by kernel_rfl) (fun _ _ _ h => h) (Or.inl ⟨by rfl, ?_⟩) (by assumption) ?_
          rotate_left
          · (intro w hSw; (try dsimp only at hSw); go_simp; (try with_reducible rfl))
          (try simp only [Act.put, List.getElem_toArray, List.getElem_cons_zero, List.getElem_cons_succ, List.setIfInBounds_toArray, List.set_cons_zero, List.set_cons_succ])
          refine wpAnyH_take (i := 3) (v := ?_) rfl (by kernel_rfl) (by kernel_rfl) (by kernel_rfl) (fun _ _ _ h => h) (Or.inl ⟨by rfl, ?_⟩) (by assumption) ?_
          rotate_left
          · (intro w hSw; (try dsimp only at hSw); go_simp; (try with_reducible rfl))
          (try simp only [Act.put, List.getElem_toArray, List.getElem_cons_zero, List.getElem_cons_succ, List.setIfInBounds_toArray, List.set_cons_zero, List.set_cons_succ])
          refine wpAnyH_take (i := 4) (v := ?_) rfl (by kernel_rfl) (by kernel_rfl) (by kernel_rfl) (fun _ _ _ h => h) (Or.inl ⟨by rfl, ?_⟩) (by assumption) ?_
          rotate_left
          · (intro w hSw; (try dsimp only at hSw); go_simp; (try with_reducible rfl))
          (try simp only [Act.put, List.getElem_toArray, List.getElem_cons_zero, List.getElem_cons_succ, List.setIfInBounds_toArray, List.set_cons_zero, List.set_cons_succ])
          refine wpAnyH_take (i := 5) (v := ?_) rfl (by kernel_rfl) (by kernel_rfl) (by kernel_rfl) (fun _ _ _ h => h) (Or.inl ⟨by rfl, ?_⟩) (by assumption) ?_
          rotate_left
          · (intro w hSw; (try dsimp only at hSw); go_simp; (try with_reducible rfl))
          (try simp only [Act.put, List.getElem_toArray, List.getElem_cons_zero, List.getElem_cons_succ, List.setIfInBounds_toArray, List.set_cons_zero, List.set_cons_succ])
          refine wpAnyH_take (i := 6) (v := ?_) rfl (by kernel_rfl) (by kernel_rfl) (by kernel_rfl) (fun _ _ _ h => h) (Or.inl ⟨by rfl, ?_⟩) (by assumption) ?_
          rotate_left
          · (intro w hSw; (try dsimp only at hSw); go_simp; (try with_reducible rfl))
          (try simp only [Act.put, List.getElem_toArray, List.getElem_cons_zero, List.getElem_cons_succ, List.setIfInBounds_toArray, List.set_cons_zero, List.set_cons_succ])
          refine wpAnyH_take (i := 7) (v := .int .i64 p.vid) rfl (by kernel_rfl) (by kernel_rfl) (by kernel_rfl) (fun _ _ _ h => h) (Or.inl ⟨by rfl, fun w hSw => by have c := hSw.1; go_simp⟩) (by assumption) ?_
          (try simp only [Act.put, List.getElem_toArray, List.getElem_cons_zero, List.getElem_cons_succ, List.setIfInBounds_toArray, List.set_cons_zero, List.set_cons_succ])
          refine wpAnyH_take (i := 8) (v := ?_) rfl (by kernel_rfl) (by kernel_rfl) (by kernel_rfl) (fun _ _ _ h => h) (Or.inl ⟨by rfl, ?_⟩) (by assumption) ?_
          rotate_left
          · (intro w hSw; (try dsimp only at hSw); go_simp; (try with_reducible rfl))
          (try simp only [Act.put, List.getElem_toArray, List.getElem_cons_zero, List.getElem_cons_succ, List.setIfInBounds_toArray, List.set_cons_zero, List.set_cons_succ])
          refine wpAnyH_take (i := 9) (v := ?_) rfl (by kernel_rfl) (by kernel_rfl) (by kernel_rfl) (fun _ _ _ h => h) (Or.inl ⟨by rfl, ?_⟩) (by assumption) ?_
          rotate_left
          · (intro w hSw; (try dsimp only at hSw); go_simp; (try with_reducible rfl))
          (try simp only [Act.put, List.getElem_toArray, List.getElem_cons_zero, List.getElem_cons_succ, List.setIfInBounds_toArray, List.set_cons_zero, List.set_cons_succ])
          refine wpAnyH_take (i := 10) (v := ?_) rfl (by kernel_rfl) (by kernel_rfl) (by kernel_rfl) (fun _ _ _ h => h) (Or.inl ⟨by rfl, ?_⟩) (by assumption) ?_
          rotate_left
          · (intro w hSw; (try dsimp only at hSw); go_simp; (try with_reducible rfl))
          (try simp only [Act.put, List.getElem_toArray, List.getElem_cons_zero, List.getElem_cons_succ, List.setIfInBounds_toArray, List.set_cons_zero, List.set_cons_succ])
          refine wpAnyH_take (i := 11) (v := ?_) rfl (by kernel_rfl) (by kernel_rfl) (by kernel_rfl) (fun _ _ _ h => h) (Or.inl ⟨by rfl, ?_⟩) (by assumption) ?_
          rotate_left
          · (intro w hSw; (try dsimp only at hSw); go_simp; (try with_reducible rfl))
          (try simp only [Act.put, List.getElem_toArray, List.getElem_cons_zero, List.getElem_cons_succ, List.setIfInBounds_toArray, List.set_cons_zero, List.set_cons_succ])
          refine wpAnyH_take (i := 12) (v := ?_) rfl (by kernel_rfl) (by kernel_rfl) (by kernel_rfl) (fun _ _ _ h => h) (Or.inl ⟨by rfl, ?_⟩) (by assumption) ?_
          rotate_left
          · (intro w hSw; (try dsimp only at hSw); go_simp; (try with_reducible rfl))
          (try simp only [Act.put, List.getElem_toArray, List.getElem_cons_zero, List.getElem_cons_succ, List.setIfInBounds_toArray, List.set_cons_zero, List.set_cons_succ])
          refine wpAnyH_take (i := 13) (v := .int .i64 pv) rfl (by kernel_rfl) (by kernel_rfl) (by kernel_rfl) (fun _ _ _ h => h) (Or.inl ⟨by rfl, fun w hSw => by have c := hSw.2; go_simp⟩) (by assumption) ?_
          (try simp only [Act.put, List.getElem_toArray, List.getElem_cons_zero, List.getElem_cons_succ, List.setIfInBounds_toArray, List.set_cons_zero, List.set_cons_succ])
          refine wpAnyH_take (i := 14) (v := ?_) rfl (by kernel_rfl) (by kernel_rfl) (by kernel_rfl) (fun _ _ _ h => h) (Or.inl ⟨by rfl, ?_⟩) (by assumption) ?_
          rotate_left
          · (intro w hSw; (try dsimp only at hSw); go_simp; (try with_reducible rfl))
          (try simp only [Act.put, List.getElem_toArray, List.getElem_cons_zero, List.getElem_cons_succ, List.setIfInBounds_toArray, List.set_cons_zero, List.set_cons_succ])
          refine wpAnyH_take (i := 15) (v := ?_) rfl (by kernel_rfl) (by kernel_rfl) (by kernel_rfl) (fun _ _ _ h => h) (Or.inl ⟨by rfl, ?_⟩) (by assumption) ?_
          rotate_left
          · (intro w hSw; (try dsimp only at hSw); go_simp; (try with_reducible rfl))
          (try simp only [Act.put, List.getElem_toArray, List.getElem_cons_zero, List.getElem_cons_succ, List.setIfInBounds_toArray, List.set_cons_zero, List.set_cons_succ])
          refine wpAnyH_done (by kernel_rfl) ?_ _
          refine NoPanic.normal ?_
          have HZd := HZk.drew
          have Bd := Bk.drew
          go_wp2_with (first | (refine build_blk (t := 37) (ftC 10 k) (by rfl) rfl (by kernel_rfl) ?_) | (refine store_blk (k := 0) 37 (.agg (ftC 10 k)) (ftC 10 k) (by rfl) rfl rfl rfl HZd (by kernel_rfl) (by exact Nat.le_refl 2) rfl rfl (fun w9 H9 b9 g9 => ?_)))
          exact bodyPost_ret (results_tmp_blkP rfl rfl H9 (by kernel_rfl) (by kernel_rfl)) rfl ⟨_, rfl, Or.inr ⟨by decide, rfl⟩, Bd.trans (b9.mono (Nat.le_refl _))⟩
        · have dv : decide (p.vid ≤ pv) = false := decide_eq_false hord
          rw [if_neg hord] at hb2
          go_upto_region 5 with (fail)
          refine wp_region_noPanic ?_
          refine wp_region_held_drew (S := (fun w' => w'.cell? ⟨b, lo + k * 2, none⟩ = some (.int .i64 p.vid) ∧ w'.cell? ⟨b, lo + j * 2, none⟩ = some (.int .i64 pv))) (by kernel_rfl) ?_ (fun hHeld => ?_)
          · exact ⟨KV, HV⟩
          refine wpAnyH_take (i := 0) (v := ?_) rfl (by kernel_rfl) (by kernel_rfl) (by kernel_rfl) (fun _ _ _ h => h) (Or.inl ⟨by rfl, ?_⟩) (by assumption) ?_
          rotate_left
          · (intro w hSw; (try dsimp only at hSw); go_simp; (try with_reducible rfl))
          (try simp only [Act.put, List.getElem_toArray, List.getElem_cons_zero, List.getElem_cons_succ, List.setIfInBounds_toArray, List.set_cons_zero, List.set_cons_succ])
          refine wpAnyH_take (i := 1) (v := ?_) rfl (by kernel_rfl) (by kernel_rfl) (by kernel_rfl) (fun _ _ _ h => h) (Or.inl ⟨by rfl, ?_⟩) (by assumption) ?_
          rotate_left
          · (intro w hSw; (try dsimp only at hSw); go_simp; (try with_reducible rfl))
          (try simp only [Act.put, List.getElem_toArray, List.getElem_cons_zero, List.getElem_cons_succ, List.setIfInBounds_toArray, List.set_cons_zero, List.set_cons_succ])
          refine wpAnyH_take (i := 2) (v := ?_) rfl (by kernel_rfl) (by kernel_rfl) (by kernel_rfl) (fun _ _ _ h => h) (Or.inl ⟨by rfl, ?_⟩) (by assumption) ?_
          rotate_left
          · (intro w hSw; (try dsimp only at hSw); go_simp; (try with_reducible rfl))
          (try simp only [Act.put, List.getElem_toArray, List.getElem_cons_zero, List.getElem_cons_succ, List.setIfInBounds_toArray, List.set_cons_zero, List.set_cons_succ])
          refine wpAnyH_take (i := 3) (v := ?_) rfl (by kernel_rfl) (by kernel_rfl) (by kernel_rfl) (fun _ _ _ h => h) (Or.inl ⟨by rfl, ?_⟩) (by assumption) ?_
          rotate_left
          · (intro w hSw; (try dsimp only at hSw); go_simp; (try with_reducible rfl))
          (try simp only [Act.put, List.getElem_toArray, List.getElem_cons_zero, List.getElem_cons_succ, List.setIfInBounds_toArray, List.set_cons_zero, List.set_cons_succ])
          refine wpAnyH_take (i := 4) (v := ?_) rfl (by kernel_rfl) (by kernel_rfl) (by kernel_rfl) (fun _ _ _ h => h) (Or.inl ⟨by rfl, ?_⟩) (by assumption) ?_
          rotate_left
          · (intro w hSw; (try dsimp only at hSw); go_simp; (try with_reducible rfl))
          (try simp only [Act.put, List.getElem_toArray, List.getElem_cons_zero, List.getElem_cons_succ, List.setIfInBounds_toArray, List.set_cons_zero, List.set_cons_succ])
          refine wpAnyH_take (i := 5) (v := ?_) rfl (by kernel_rfl) (by kernel_rfl) (by kernel_rfl) (fun _ _ _ h => h) (Or.inl ⟨by rfl, ?_⟩) (by assumption) ?_
          rotate_left
          · (intro w hSw; (try dsimp only at hSw); go_simp; (try with_reducible rfl))
          (try simp only [Act.put, List.getElem_toArray, List.getElem_cons_zero, List.getElem_cons_succ, List.setIfInBounds_toArray, List.set_cons_zero, List.set_cons_succ])
          refine wpAnyH_take (i := 6) (v := ?_) rfl (by kernel_rfl) (by kernel_rfl) (by kernel_rfl) (fun _ _ _ h => h) (Or.inl ⟨by rfl, ?_⟩) (by assumption) ?_
          rotate_left
          · (intro w hSw; (try dsimp only at hSw); go_simp; (try with_reducible rfl))
          (try simp only [Act.put, List.getElem_toArray, List.getElem_cons_zero, List.getElem_cons_succ, List.setIfInBounds_toArray, List.set_cons_zero, List.set_cons_succ])
          refine wpAnyH_take (i := 7) (v := .int .i64 p.vid) rfl (by kernel_rfl) (by kernel_rfl) (by kernel_rfl) (fun _ _ _ h => h) (Or.inl ⟨by rfl, fun w hSw => by have c := hSw.1; go_simp⟩) (by assumption) ?_
          (try simp only [Act.put, List.getElem_toArray, List.getElem_cons_zero, List.getElem_cons_succ, List.setIfInBounds_toArray, List.set_cons_zero, List.set_cons_succ])
          refine wpAnyH_take (i := 8) (v := ?_) rfl (by kernel_rfl) (by kernel_rfl) (by kernel_rfl) (fun _ _ _ h => h) (Or.inl ⟨by rfl, ?_⟩) (by assumption) ?_
          rotate_left
          · (intro w hSw; (try dsimp only at hSw); go_simp; (try with_reducible rfl))
          (try simp only [Act.put, List.getElem_toArray, List.getElem_cons_zero, List.getElem_cons_succ, List.setIfInBounds_toArray, List.set_cons_zero, List.set_cons_succ])
          refine wpAnyH_take (i := 9) (v := ?_) rfl (by kernel_rfl) (by kernel_rfl) (by kernel_rfl) (fun _ _ _ h => h) (Or.inl ⟨by rfl, ?_⟩) (by assumption) ?_
          rotate_left
          · (intro w hSw; (try dsimp only at hSw); go_simp; (try with_reducible rfl))
          (try simp only [Act.put, List.getElem_toArray, List.getElem_cons_zero, List.getElem_cons_succ, List.setIfInBounds_toArray, List.set_cons_zero, List.set_cons_succ])
          refine wpAnyH_take (i := 10) (v := ?_) rfl (by kernel_rfl) (by kernel_rfl) (by kernel_rfl) (fun _ _ _ h => h) (Or.inl ⟨by rfl, ?_⟩) (by assumption) ?_
          rotate_left
          · (intro w hSw; (try dsimp only at hSw); go_simp; (try with_reducible rfl))
          (try simp only [Act.put, List.getElem_toArray, List.getElem_cons_zero, List.getElem_cons_succ, List.setIfInBounds_toArray, List.set_cons_zero, List.set_cons_succ])
          refine wpAnyH_take (i := 11) (v := ?_) rfl (by kernel_rfl) (by kernel_rfl) (by kernel_rfl) (fun _ _ _ h => h) (Or.inl ⟨by rfl, ?_⟩) (by assumption) ?_
          rotate_left
          · (intro w hSw; (try dsimp only at hSw); go_simp; (try with_reducible rfl))
          (try simp only [Act.put, List.getElem_toArray, List.getElem_cons_zero, List.getElem_cons_succ, List.setIfInBounds_toArray, List.set_cons_zero, List.set_cons_succ])
          refine wpAnyH_take (i := 12) (v := ?_) rfl (by kernel_rfl) (by kernel_rfl) (by kernel_rfl) (fun _ _ _ h => h) (Or.inl ⟨by rfl, ?_⟩) (by assumption) ?_
          rotate_left
          · (intro w hSw; (try dsimp only at hSw); go_simp; (try with_reducible rfl))
          (try simp only [Act.put, List.getElem_toArray, List.getElem_cons_zero, List.getElem_cons_succ, List.setIfInBounds_toArray, List.set_cons_zero, List.set_cons_succ])
          refine wpAnyH_take (i := 13) (v := .int .i64 pv) rfl (by kernel_rfl) (by kernel_rfl) (by kernel_rfl) (fun _ _ _ h => h) (Or.inl ⟨by rfl, fun w hSw => by have c := hSw.2; go_simp⟩) (by assumption) ?_
          (try simp only [Act.put, List.getElem_toArray, List.getElem_cons_zero, List.getElem_cons_succ, List.setIfInBounds_toArray, List.set_cons_zero, List.set_cons_succ])
          refine wpAnyH_take (i := 14) (v := ?_) rfl (by kernel_rfl) (by kernel_rfl) (by kernel_rfl) (fun _ _ _ h => h) (Or.inl ⟨by rfl, ?_⟩) (by assumption) ?_
          rotate_left
          · (intro w hSw; (try dsimp only at hSw); go_simp; (try with_reducible rfl))
          (try simp only [Act.put, List.getElem_toArray, List.getElem_cons_zero, List.getElem_cons_succ, List.setIfInBounds_toArray, List.set_cons_zero, List.set_cons_succ])
          refine wpAnyH_take (i := 15) (v := ?_) rfl (by kernel_rfl) (by kernel_rfl) (by kernel_rfl) (fun _ _ _ h => h) (Or.inl ⟨by rfl, ?_⟩) (by assumption) ?_
          rotate_left
          · (intro w hSw; (try dsimp only at hSw); go_simp; (try with_reducible rfl))
          (try simp only [Act.put, List.getElem_toArray, List.getElem_cons_zero, List.getElem_cons_succ, List.setIfInBounds_toArray, List.set_cons_zero, List.set_cons_succ])
          refine wpAnyH_done (by kernel_rfl) ?_ _
          refine NoPanic.normal ?_
          have KVd : wr.drew.cell? ⟨b, lo + k * 2, none⟩ = some (.int .i64 p.vid) := KV
          have HZd := HZk.drew
          have Bd := Bk.drew
          have hsd : base ≤ wr.drew.heap.size := hsw
          have hbd : b < wr.drew.heap.size := hbw
          have KEd : wr.drew.cell? ⟨b, lo + k * 2 + 1, none⟩ = some (.int .i64 p.ev) := KE
          clear KV KE HZk Bk hsw hbw
          generalize wr.drew = wd at *
          cases b1 with
          | false =>
            have hbad : okPrB p = false := by rw [HTW.out]; rfl
            rw [hbad] at hb2
            obtain ⟨hen1, _, rfl⟩ := HEN.out (HBD.out.resolve_left (fun q => by rw [hb2] at q; exact absurd q (by decide)))
            obtain rfl : e0 = 1 := by rw [← hen1, hb2]; rfl
            clear HEN HBD HKM hen1 hbad HTW HW2
            go_wp2_with (first
              | (go_at_call 33; refine (HW1.out _).mono ?_; rintro e w2 ⟨rfl, k2⟩; have HZ2 := HZd.kept k2; have B2 := Bd.trans (k2.mono hsd))
              | (refine build_blk (t := 37) (ftC 1 k) (by rfl) rfl (by kernel_rfl) ?_)
              | (refine store_blk (k := 0) 37 (.agg (ftC 1 k)) (ftC 1 k) (by rfl) rfl rfl rfl HZ2 (by kernel_rfl) (by exact Nat.le_refl 2) rfl rfl (fun w9 H9 b9 g9 => ?_)))
            exact bodyPost_ret (results_tmp_blkP rfl rfl H9 (by kernel_rfl) (by kernel_rfl)) rfl ⟨_, rfl, Or.inr ⟨by decide, rfl⟩, B2.trans (b9.mono (Nat.le_refl _))⟩
          | true =>
            cases b2 with
            | false =>
              have hbad : okPrB p = false := by rw [HTW.out]; rfl
              rw [hbad] at hb2
              obtain ⟨hen1, _, rfl⟩ := HEN.out (HBD.out.resolve_left (fun q => by rw [hb2] at q; exact absurd q (by decide)))
              obtain rfl : e0 = 1 := by rw [← hen1, hb2]; rfl
              clear HEN HBD HKM hen1 hbad HTW
              go_wp2_with (first
                | (go_at_call 33; (have _ := k2); refine (HW2.out _).mono ?_; rintro e w3 ⟨rfl, k3⟩; have HZ3 := (HZd.kept k2).kept k3; have B3 := Bd.trans ((k2.trans (k3.mono k2.size)).mono hsd))
                | (go_at_call 33; refine (HW1.out _).mono ?_; rintro e w2 ⟨rfl, k2⟩; have KE2 := (k2.cell (p := ⟨b, lo + k * 2 + 1, none⟩) hbd).trans KEd)
                | (refine build_blk (t := 37) (ftC 1 k) (by rfl) rfl (by kernel_rfl) ?_)
                | (refine store_blk (k := 0) 37 (.agg (ftC 1 k)) (ftC 1 k) (by rfl) rfl rfl rfl HZ3 (by kernel_rfl) (by exact Nat.le_refl 2) rfl rfl (fun w9 H9 b9 g9 => ?_)))
              exact bodyPost_ret (results_tmp_blkP rfl rfl H9 (by kernel_rfl) (by kernel_rfl)) rfl ⟨_, rfl, Or.inr ⟨by decide, rfl⟩, B3.trans (b9.mono (Nat.le_refl _))⟩
            | true =>
              have hgd : okPrB p = true := by rw [HTW.out]; rfl
              rw [hgd, if_pos rfl] at hb2
              have hkm := Lib.hid (HKM.out hb2)
              clear HEN HBD HKM hgd HTW
              go_wp2_with (first
                | (go_at_call 33; (have _ := k2); refine (HW2.out _).mono ?_; rintro e w3 ⟨rfl, k3⟩; have HZ3 := (HZd.kept k2).kept k3; have B3 := Bd.trans ((k2.trans (k3.mono k2.size)).mono hsd))
                | (go_at_call 33; refine (HW1.out _).mono ?_; rintro e w2 ⟨rfl, k2⟩; have KE2 := (k2.cell (p := ⟨b, lo + k * 2 + 1, none⟩) hbd).trans KEd))
              go_roundw
              case rel => exact ⟨k + 1, hkm.out, by go_num, HZ3, B3⟩
              case measure => simp [intOf]; omega
    · obtain rfl : k = ps.length := by omega
      obtain rfl : m = ps.length := by omega
      obtain ⟨rfl, rfl⟩ : e0 = 0 ∧ pl = -1 := by
        rcases HEND.out with ⟨_, r2, r3⟩ | ⟨r1, _⟩
        · exact ⟨r2, r3⟩
        · omega
      have q2 : decide ((ps.length : Int) < (ps.length : Int)) = false := decide_eq_false (by omega)
      have HVR : Hid (∀ k, k < ps.length → 1 ≤ vidN ps k ∧ vidN ps k ≤ 4094) := fun k hk => by
        have q := take_okPr ps ps.length (fun j hj hjk => HOK.out j hj hj)
        rw [List.take_length] at q
        have q2 := q ps[k] (List.getElem_mem hk)
        rw [vidN_get hk]
        exact ⟨q2.1, q2.2.1⟩
      clear HOK HEND hk q2 hm
      generalize wr = wo at *
      go_wp2_with fail
      go_loopw [0, 4] (fun v0 v4 wx => RkInv w base b lo c ps v0 v4 wx) (fun v0 _ _ => slLen v0)
      case atStart => exact ⟨0, ps.length, _, c, [], _, rfl, by omega, rfl, hlc, Nat.le_refl _, fun _ => by simp, fun _ => by rw [List.take_zero]; exact NoGo.nil _, by rw [List.take_zero]; rfl, OwnAs.nil _ _, HZk, Bk⟩
      case round =>
        obtain ⟨i, r, a', c', hs, v, rfl, hir, rfl, hrc, hcc, ha, hng, hx, hO, HZi, Bi⟩ := hrel
        clear HZk Bk
        have hsi : base ≤ wr.heap.size := by rw [← hbase]; rw [← hbase] at Bi; exact Bi.size
        rcases Nat.eq_zero_or_pos r with h0 | h0
        · subst h0
          obtain rfl : i = ps.length := by omega
          rw [List.take_length] at hx
          clear ha hng hir HVR
          go_wp2_with fail
          refine (good_any _).mono ?_
          rintro e w6 ⟨rfl, b6⟩
          have HZ6 := HZi.kept b6
          have B6 := Bi.trans (b6.mono hsi)
          have hO6 := hO.kept b6
          go_wp2_with (refine store_blk (k := 0) 37 (.agg (ftC 0 (-1))) (ftC 0 (-1)) (by rfl) rfl rfl rfl HZ6 (by kernel_rfl) (by exact Nat.le_refl 2) rfl rfl (fun w7 H7 b7 g7 => ?_))
          have hO7 := hO6.other HZ6 (by decide) (by decide) g7
          exact bodyPost_ret (results_tmp_blkP rfl rfl H7 (by kernel_rfl) (by kernel_rfl)) rfl ⟨_, rfl, Or.inl ⟨rfl, hs, hx, hO7⟩, B6.trans (b7.mono (Nat.le_refl _))⟩
        · obtain rfl := ha h0
          have hng' := Lib.hid (hng h0)
          have HAT : Hid (∀ W, Below wr.heap.size wr W → PrAt W b lo ps) := fun W hb => HA0.out.below (Bi.trans (hb.mono hsi)) hbl
          have hr1 : decide ((0 : Int) < (r : Int)) = true := decide_eq_true (by omega)
          have hr2 : decide (0 < r) = true := decide_eq_true h0
          clear ha hng HA0
          have HHS := Lib.hid hx
          clear hx
          generalize wr = wi at *
          go_upto_block 4 with (fail)
          go_cut [6] from 52 to 107 (fun v wx => ∃ n : Nat, v = .int .i64 ((n + 1 : Nat) : Int) ∧ n + 1 ≤ r ∧ n + 1 ≤ 400 ∧ RunN ps i (n + 1) ∧ (n + 1 = r ∨ n + 1 = 400 ∨ vidN ps (i + (n + 1)) ≠ vidN ps (i + n) + 1) ∧ Below wi.heap.size wi wx)
          case first =>
            go_wp2_with fail
            go_loopw [6] (fun v wx => ∃ n : Nat, v = .int .i64 ((n + 1 : Nat) : Int) ∧ n + 1 ≤ r ∧ n + 1 ≤ 400 ∧ RunN ps i (n + 1) ∧ Below wi.heap.size wi wx) (fun v _ => r - (intOf v).toNat)
            case atStart => exact ⟨0, rfl, by omega, by omega, RunN.one ps i, Below.refl _ _⟩
            case round =>
              obtain ⟨n, rfl, hn1, hn2, hrun, bn⟩ := hrel
              obtain ⟨N, hN⟩ : ∃ N, n + 1 = N := ⟨_, rfl⟩
              rw [hN]
              have hN1 : N ≤ r := by omega
              have hN4 : N ≤ 400 := by omega
              have hNn : IntKind.i64.wrap ((N : Int) - 1) = (n : Int) := by rw [IntKind.wrap_i64] <;> omega
              by_cases hA : N = r
              · have d1 : decide ((N : Int) < (r : Int)) = false := decide_eq_false (by omega)
                have d1N : decide (N < r) = false := decide_eq_false (by omega)
                replace hA := Lib.hid hA
                replace hN := Lib.hid hN
                go_upto_region 12 with (fail)
                refine wp_region_noPanic ?_
                refine wp_region_held_drew (S := (fun _ => True)) (by kernel_rfl) ?_ (fun hHeld => ?_)
                · exact trivial
                refine wpAnyH_take (i := 0) (v := ?_) rfl (by kernel_rfl) (by kernel_rfl) (by kernel_rfl) (fun _ _ _ h => h) (Or.inl ⟨by rfl, ?_⟩) (by assumption) ?_
                rotate_left
                · (intro w hSw; (try dsimp only at hSw); go_simp; (try with_reducible rfl))
                (try simp only [Act.put, List.getElem_toArray, List.getElem_cons_zero, List.getElem_cons_succ, List.setIfInBounds_toArray, List.set_cons_zero, List.set_cons_succ])
                refine wpAnyH_take (i := 1) (v := ?_) rfl (by kernel_rfl) (by kernel_rfl) (by kernel_rfl) (fun _ _ _ h => h) (Or.inl ⟨by rfl, ?_⟩) (by assumption) ?_
                rotate_left
                · (intro w hSw; (try dsimp only at hSw); go_simp; (try with_reducible rfl))
                (try simp only [Act.put, List.getElem_toArray, List.getElem_cons_zero, List.getElem_cons_succ, List.setIfInBounds_toArray, List.set_cons_zero, List.set_cons_succ])
                refine wpAnyH_take (i := 2) (v := ?_) rfl (by kernel_rfl) (by kernel_rfl) (by kernel_rfl) (fun _ _ _ h => h) (Or.inl ⟨by rfl, ?_⟩) (by assumption) ?_
                rotate_left
                · (intro w hSw; (try dsimp only at hSw); go_simp; (try with_reducible rfl))
                (try simp only [Act.put, List.getElem_toArray, List.getElem_cons_zero, List.getElem_cons_succ, List.setIfInBounds_toArray, List.set_cons_zero, List.set_cons_succ])
                refine wpAnyH_take (i := 3) (v := ?_) rfl (by kernel_rfl) (by kernel_rfl) (by kernel_rfl) (fun _ _ _ h => h) (Or.inl ⟨by rfl, ?_⟩) (by assumption) ?_
                rotate_left
                · (intro w hSw; (try dsimp only at hSw); go_simp; (try with_reducible rfl))
                (try simp only [Act.put, List.getElem_toArray, List.getElem_cons_zero, List.getElem_cons_succ, List.setIfInBounds_toArray, List.set_cons_zero, List.set_cons_succ])
                refine wpAnyH_take (i := 4) (v := ?_) rfl (by kernel_rfl) (by kernel_rfl) (by kernel_rfl) (fun _ _ _ h => h) (Or.inl ⟨by rfl, ?_⟩) (by assumption) ?_
                rotate_left
                · (intro w hSw; (try dsimp only at hSw); go_simp; (try with_reducible rfl))
                (try simp only [Act.put, List.getElem_toArray, List.getElem_cons_zero, List.getElem_cons_succ, List.setIfInBounds_toArray, List.set_cons_zero, List.set_cons_succ])
                refine wpAnyH_take (i := 5) (v := undef) rfl (by kernel_rfl) (by kernel_rfl) (by kernel_rfl) (fun _ _ _ h => h) (Or.inr ⟨by rfl, rfl⟩) (by assumption) ?_
                (try simp only [Act.put, List.getElem_toArray, List.getElem_cons_zero, List.getElem_cons_succ, List.setIfInBounds_toArray, List.set_cons_zero, List.set_cons_succ])
                refine wpAnyH_take (i := 6) (v := undef) rfl (by kernel_rfl) (by kernel_rfl) (by kernel_rfl) (fun _ _ _ h => h) (Or.inr ⟨by rfl, rfl⟩) (by assumption) ?_
                (try simp only [Act.put, List.getElem_toArray, List.getElem_cons_zero, List.getElem_cons_succ, List.setIfInBounds_toArray, List.set_cons_zero, List.set_cons_succ])
                refine wpAnyH_take (i := 7) (v := ?_) rfl (by kernel_rfl) (by kernel_rfl) (by kernel_rfl) (fun _ _ _ h => h) (Or.inl ⟨by rfl, ?_⟩) (by assumption) ?_
                rotate_left
                · (intro w hSw; (try dsimp only at hSw); go_simp; (try with_reducible rfl))
                (try simp only [Act.put, List.getElem_toArray, List.getElem_cons_zero, List.getElem_cons_succ, List.setIfInBounds_toArray, List.set_cons_zero, List.set_cons_succ])
                refine wpAnyH_take (i := 8) (v := ?_) rfl (by kernel_rfl) (by kernel_rfl) (by kernel_rfl) (fun _ _ _ h => h) (Or.inl ⟨by rfl, ?_⟩) (by assumption) ?_
                rotate_left
                · (intro w hSw; (try dsimp only at hSw); go_simp; (try with_reducible rfl))
                (try simp only [Act.put, List.getElem_toArray, List.getElem_cons_zero, List.getElem_cons_succ, List.setIfInBounds_toArray, List.set_cons_zero, List.set_cons_succ])
                refine wpAnyH_take (i := 9) (v := undef) rfl (by kernel_rfl) (by kernel_rfl) (by kernel_rfl) (fun _ _ _ h => h) (Or.inr ⟨by rfl, rfl⟩) (by assumption) ?_
                (try simp only [Act.put, List.getElem_toArray, List.getElem_cons_zero, List.getElem_cons_succ, List.setIfInBounds_toArray, List.set_cons_zero, List.set_cons_succ])
                refine wpAnyH_take (i := 10) (v := undef) rfl (by kernel_rfl) (by kernel_rfl) (by kernel_rfl) (fun _ _ _ h => h) (Or.inr ⟨by rfl, rfl⟩) (by assumption) ?_
                (try simp only [Act.put, List.getElem_toArray, List.getElem_cons_zero, List.getElem_cons_succ, List.setIfInBounds_toArray, List.set_cons_zero, List.set_cons_succ])
                refine wpAnyH_take (i := 11) (v := undef) rfl (by kernel_rfl) (by kernel_rfl) (by kernel_rfl) (fun _ _ _ h => h) (Or.inr ⟨by rfl, rfl⟩) (by assumption) ?_
                (try simp only [Act.put, List.getElem_toArray, List.getElem_cons_zero, List.getElem_cons_succ, List.setIfInBounds_toArray, List.set_cons_zero, List.set_cons_succ])
                refine wpAnyH_take (i := 12) (v := undef) rfl (by kernel_rfl) (by kernel_rfl) (by kernel_rfl) (fun _ _ _ h => h) (Or.inr ⟨by rfl, rfl⟩) (by assumption) ?_
                (try simp only [Act.put, List.getElem_toArray, List.getElem_cons_zero, List.getElem_cons_succ, List.setIfInBounds_toArray, List.set_cons_zero, List.set_cons_succ])
                refine wpAnyH_take (i := 13) (v := undef) rfl (by kernel_rfl) (by kernel_rfl) (by kernel_rfl) (fun _ _ _ h => h) (Or.inr ⟨by rfl, rfl⟩) (by assumption) ?_
                (try simp only [Act.put, List.getElem_toArray, List.getElem_cons_zero, List.getElem_cons_succ, List.setIfInBounds_toArray, List.set_cons_zero, List.set_cons_succ])
                refine wpAnyH_take (i := 14) (v := undef) rfl (by kernel_rfl) (by kernel_rfl) (by kernel_rfl) (fun _ _ _ h => h) (Or.inr ⟨by rfl, rfl⟩) (by assumption) ?_
                (try simp only [Act.put, List.getElem_toArray, List.getElem_cons_zero, List.getElem_cons_succ, List.setIfInBounds_toArray, List.set_cons_zero, List.set_cons_succ])
                refine wpAnyH_take (i := 15) (v := undef) rfl (by kernel_rfl) (by kernel_rfl) (by kernel_rfl) (fun _ _ _ h => h) (Or.inr ⟨by rfl, rfl⟩) (by assumption) ?_
                (try simp only [Act.put, List.getElem_toArray, List.getElem_cons_zero, List.getElem_cons_succ, List.setIfInBounds_toArray, List.set_cons_zero, List.set_cons_succ])
                refine wpAnyH_take (i := 16) (v := undef) rfl (by kernel_rfl) (by kernel_rfl) (by kernel_rfl) (fun _ _ _ h => h) (Or.inr ⟨by rfl, rfl⟩) (by assumption) ?_
                (try simp only [Act.put, List.getElem_toArray, List.getElem_cons_zero, List.getElem_cons_succ, List.setIfInBounds_toArray, List.set_cons_zero, List.set_cons_succ])
                refine wpAnyH_take (i := 17) (v := undef) rfl (by kernel_rfl) (by kernel_rfl) (by kernel_rfl) (fun _ _ _ h => h) (Or.inr ⟨by rfl, rfl⟩) (by assumption) ?_
                (try simp only [Act.put, List.getElem_toArray, List.getElem_cons_zero, List.getElem_cons_succ, List.setIfInBounds_toArray, List.set_cons_zero, List.set_cons_succ])
                refine wpAnyH_take (i := 18) (v := undef) rfl (by kernel_rfl) (by kernel_rfl) (by kernel_rfl) (fun _ _ _ h => h) (Or.inr ⟨by rfl, rfl⟩) (by assumption) ?_
                (try simp only [Act.put, List.getElem_toArray, List.getElem_cons_zero, List.getElem_cons_succ, List.setIfInBounds_toArray, List.set_cons_zero, List.set_cons_succ])
                refine wpAnyH_take (i := 19) (v := undef) rfl (by kernel_rfl) (by kernel_rfl) (by kernel_rfl) (fun _ _ _ h => h) (Or.inr ⟨by rfl, rfl⟩) (by assumption) ?_
                (try simp only [Act.put, List.getElem_toArray, List.getElem_cons_zero, List.getElem_cons_succ, List.setIfInBounds_toArray, List.set_cons_zero, List.set_cons_succ])
                refine wpAnyH_take (i := 20) (v := undef) rfl (by kernel_rfl) (by kernel_rfl) (by kernel_rfl) (fun _ _ _ h => h) (Or.inr ⟨by rfl, rfl⟩) (by assumption) ?_
                (try simp only [Act.put, List.getElem_toArray, List.getElem_cons_zero, List.getElem_cons_succ, List.setIfInBounds_toArray, List.set_cons_zero, List.set_cons_succ])
                refine wpAnyH_take (i := 21) (v := undef) rfl (by kernel_rfl) (by kernel_rfl) (by kernel_rfl) (fun _ _ _ h => h) (Or.inr ⟨by rfl, rfl⟩) (by assumption) ?_
                (try simp only [Act.put, List.getElem_toArray, List.getElem_cons_zero, List.getElem_cons_succ, List.setIfInBounds_toArray, List.set_cons_zero, List.set_cons_succ])
                refine wpAnyH_take (i := 22) (v := ?_) rfl (by kernel_rfl) (by kernel_rfl) (by kernel_rfl) (fun _ _ _ h => h) (Or.inl ⟨by rfl, ?_⟩) (by assumption) ?_
                rotate_left
                · (intro w hSw; (try dsimp only at hSw); go_simp; (try with_reducible rfl))
                (try simp only [Act.put, List.getElem_toArray, List.getElem_cons_zero, List.getElem_cons_succ, List.setIfInBounds_toArray, List.set_cons_zero, List.set_cons_succ])
                refine wpAnyH_done (by kernel_rfl) ?_ _
                refine NoPanic.normal ?_
                go_wp2_with fail
                go_meet
                exact ⟨n, by rw [hN.out], by omega, hn2, hrun, Or.inl (by rw [hN.out]; exact hA.out), bn.drew⟩
              · have d1 : decide ((N : Int) < (r : Int)) = true := decide_eq_true (by omega)
                have d1N : decide (N < r) = true := decide_eq_true (by omega)
                by_cases hB : N = 400
                · have d2 : decide ((N : Int) < 400) = false := decide_eq_false (by omega)
                  have d2N : decide (N < 400) = false := decide_eq_false (by omega)
                  replace hB := Lib.hid hB
                  replace hN := Lib.hid hN
                  go_upto_region 12 with (fail)
                  refine wp_region_noPanic ?_
                  refine wp_region_held_drew (S := (fun _ => True)) (by kernel_rfl) ?_ (fun hHeld => ?_)
                  · exact trivial
                  refine wpAnyH_take (i := 0) (v := ?_) rfl (by kernel_rfl) (by kernel_rfl) (by kernel_rfl) (fun _ _ _ h => h) (Or.inl ⟨by rfl, ?_⟩) (by assumption) ?_
                  rotate_left
                  · (intro w hSw; (try dsimp only at hSw); go_simp; (try with_reducible rfl))
                  (try simp only [Act.put, List.getElem_toArray, List.getElem_cons_zero, List.getElem_cons_succ, List.setIfInBounds_toArray, List.set_cons_zero, List.set_cons_succ])
                  refine wpAnyH_take (i := 1) (v := ?_) rfl (by kernel_rfl) (by kernel_rfl) (by kernel_rfl) (fun _ _ _ h => h) (Or.inl ⟨by rfl, ?_⟩) (by assumption) ?_
                  rotate_left
                  · (intro w hSw; (try dsimp only at hSw); go_simp; (try with_reducible rfl))
                  (try simp only [Act.put, List.getElem_toArray, List.getElem_cons_zero, List.getElem_cons_succ, List.setIfInBounds_toArray, List.set_cons_zero, List.set_cons_succ])
                  refine wpAnyH_take (i := 2) (v := ?_) rfl (by kernel_rfl) (by kernel_rfl) (by kernel_rfl) (fun _ _ _ h => h) (Or.inl ⟨by rfl, ?_⟩) (by assumption) ?_
                  rotate_left
                  · (intro w hSw; (try dsimp only at hSw); go_simp; (try with_reducible rfl))
                  (try simp only [Act.put, List.getElem_toArray, List.getElem_cons_zero, List.getElem_cons_succ, List.setIfInBounds_toArray, List.set_cons_zero, List.set_cons_succ])
                  refine wpAnyH_take (i := 3) (v := ?_) rfl (by kernel_rfl) (by kernel_rfl) (by kernel_rfl) (fun _ _ _ h => h) (Or.inl ⟨by rfl, ?_⟩) (by assumption) ?_
                  rotate_left
                  · (intro w hSw; (try dsimp only at hSw); go_simp; (try with_reducible rfl))
                  (try simp only [Act.put, List.getElem_toArray, List.getElem_cons_zero, List.getElem_cons_succ, List.setIfInBounds_toArray, List.set_cons_zero, List.set_cons_succ])
                  refine wpAnyH_take (i := 4) (v := ?_) rfl (by kernel_rfl) (by kernel_rfl) (by kernel_rfl) (fun _ _ _ h => h) (Or.inl ⟨by rfl, ?_⟩) (by assumption) ?_
                  rotate_left
                  · (intro w hSw; (try dsimp only at hSw); go_simp; (try with_reducible rfl))
                  (try simp only [Act.put, List.getElem_toArray, List.getElem_cons_zero, List.getElem_cons_succ, List.setIfInBounds_toArray, List.set_cons_zero, List.set_cons_succ])
                  refine wpAnyH_take (i := 5) (v := ?_) rfl (by kernel_rfl) (by kernel_rfl) (by kernel_rfl) (fun _ _ _ h => h) (Or.inl ⟨by rfl, ?_⟩) (by assumption) ?_
                  rotate_left
                  · (intro w hSw; (try dsimp only at hSw); go_simp; (try with_reducible rfl))
                  (try simp only [Act.put, List.getElem_toArray, List.getElem_cons_zero, List.getElem_cons_succ, List.setIfInBounds_toArray, List.set_cons_zero, List.set_cons_succ])
                  refine wpAnyH_take (i := 6) (v := ?_) rfl (by kernel_rfl) (by kernel_rfl) (by kernel_rfl) (fun _ _ _ h => h) (Or.inl ⟨by rfl, ?_⟩) (by assumption) ?_
                  rotate_left
                  · (intro w hSw; (try dsimp only at hSw); go_simp; (try with_reducible rfl))
                  (try simp only [Act.put, List.getElem_toArray, List.getElem_cons_zero, List.getElem_cons_succ, List.setIfInBounds_toArray, List.set_cons_zero, List.set_cons_succ])
                  refine wpAnyH_take (i := 7) (v := ?_) rfl (by kernel_rfl) (by kernel_rfl) (by kernel_rfl) (fun _ _ _ h => h) (Or.inl ⟨by rfl, ?_⟩) (by assumption) ?_
                  rotate_left
                  · (intro w hSw; (try dsimp only at hSw); go_simp; (try with_reducible rfl))
                  (try simp only [Act.put, List.getElem_toArray, List.getElem_cons_zero, List.getElem_cons_succ, List.setIfInBounds_toArray, List.set_cons_zero, List.set_cons_succ])
                  refine wpAnyH_take (i := 8) (v := ?_) rfl (by kernel_rfl) (by kernel_rfl) (by kernel_rfl) (fun _ _ _ h => h) (Or.inl ⟨by rfl, ?_⟩) (by assumption) ?_
                  rotate_left
                  · (intro w hSw; (try dsimp only at hSw); go_simp; (try with_reducible rfl))
                  (try simp only [Act.put, List.getElem_toArray, List.getElem_cons_zero, List.getElem_cons_succ, List.setIfInBounds_toArray, List.set_cons_zero, List.set_cons_succ])
                  refine wpAnyH_take (i := 9) (v := undef) rfl (by kernel_rfl) (by kernel_rfl) (by kernel_rfl) (fun _ _ _ h => h) (Or.inr ⟨by rfl, rfl⟩) (by assumption) ?_
                  (try simp only [Act.put, List.getElem_toArray, List.getElem_cons_zero, List.getElem_cons_succ, List.setIfInBounds_toArray, List.set_cons_zero, List.set_cons_succ])
                  refine wpAnyH_take (i := 10) (v := undef) rfl (by kernel_rfl) (by kernel_rfl) (by kernel_rfl) (fun _ _ _ h => h) (Or.inr ⟨by rfl, rfl⟩) (by assumption) ?_
                  (try simp only [Act.put, List.getElem_toArray, List.getElem_cons_zero, List.getElem_cons_succ, List.setIfInBounds_toArray, List.set_cons_zero, List.set_cons_succ])
                  refine wpAnyH_take (i := 11) (v := undef) rfl (by kernel_rfl) (by kernel_rfl) (by kernel_rfl) (fun _ _ _ h => h) (Or.inr ⟨by rfl, rfl⟩) (by assumption) ?_
                  (try simp only [Act.put, List.getElem_toArray, List.getElem_cons_zero, List.getElem_cons_succ, List.setIfInBounds_toArray, List.set_cons_zero, List.set_cons_succ])
                  refine wpAnyH_take (i := 12) (v := undef) rfl (by kernel_rfl) (by kernel_rfl) (by kernel_rfl) (fun _ _ _ h => h) (Or.inr ⟨by rfl, rfl⟩) (by assumption) ?_
                  (try simp only [Act.put, List.getElem_toArray, List.getElem_cons_zero, List.getElem_cons_succ, List.setIfInBounds_toArray, List.set_cons_zero, List.set_cons_succ])
                  refine wpAnyH_take (i := 13) (v := undef) rfl (by kernel_rfl) (by kernel_rfl) (by kernel_rfl) (fun _ _ _ h => h) (Or.inr ⟨by rfl, rfl⟩) (by assumption) ?_
                  (try simp only [Act.put, List.getElem_toArray, List.getElem_cons_zero, List.getElem_cons_succ, List.setIfInBounds_toArray, List.set_cons_zero, List.set_cons_succ])
                  refine wpAnyH_take (i := 14) (v := undef) rfl (by kernel_rfl) (by kernel_rfl) (by kernel_rfl) (fun _ _ _ h => h) (Or.inr ⟨by rfl, rfl⟩) (by assumption) ?_
                  (try simp only [Act.put, List.getElem_toArray, List.getElem_cons_zero, List.getElem_cons_succ, List.setIfInBounds_toArray, List.set_cons_zero, List.set_cons_succ])
                  refine wpAnyH_take (i := 15) (v := undef) rfl (by kernel_rfl) (by kernel_rfl) (by kernel_rfl) (fun _ _ _ h => h) (Or.inr ⟨by rfl, rfl⟩) (by assumption) ?_
                  (try simp only [Act.put, List.getElem_toArray, List.getElem_cons_zero, List.getElem_cons_succ, List.setIfInBounds_toArray, List.set_cons_zero, List.set_cons_succ])
                  refine wpAnyH_take (i := 16) (v := undef) rfl (by kernel_rfl) (by kernel_rfl) (by kernel_rfl) (fun _ _ _ h => h) (Or.inr ⟨by rfl, rfl⟩) (by assumption) ?_
                  (try simp only [Act.put, List.getElem_toArray, List.getElem_cons_zero, List.getElem_cons_succ, List.setIfInBounds_toArray, List.set_cons_zero, List.set_cons_succ])
                  refine wpAnyH_take (i := 17) (v := undef) rfl (by kernel_rfl) (by kernel_rfl) (by kernel_rfl) (fun _ _ _ h => h) (Or.inr ⟨by rfl, rfl⟩) (by assumption) ?_
                  (try simp only [Act.put, List.getElem_toArray, List.getElem_cons_zero, List.getElem_cons_succ, List.setIfInBounds_toArray, List.set_cons_zero, List.set_cons_succ])
                  refine wpAnyH_take (i := 18) (v := undef) rfl (by kernel_rfl) (by kernel_rfl) (by kernel_rfl) (fun _ _ _ h => h) (Or.inr ⟨by rfl, rfl⟩) (by assumption) ?_
                  (try simp only [Act.put, List.getElem_toArray, List.getElem_cons_zero, List.getElem_cons_succ, List.setIfInBounds_toArray, List.set_cons_zero, List.set_cons_succ])
                  refine wpAnyH_take (i := 19) (v := undef) rfl (by kernel_rfl) (by kernel_rfl) (by kernel_rfl) (fun _ _ _ h => h) (Or.inr ⟨by rfl, rfl⟩) (by assumption) ?_
                  (try simp only [Act.put, List.getElem_toArray, List.getElem_cons_zero, List.getElem_cons_succ, List.setIfInBounds_toArray, List.set_cons_zero, List.set_cons_succ])
                  refine wpAnyH_take (i := 20) (v := undef) rfl (by kernel_rfl) (by kernel_rfl) (by kernel_rfl) (fun _ _ _ h => h) (Or.inr ⟨by rfl, rfl⟩) (by assumption) ?_
                  (try simp only [Act.put, List.getElem_toArray, List.getElem_cons_zero, List.getElem_cons_succ, List.setIfInBounds_toArray, List.set_cons_zero, List.set_cons_succ])
                  refine wpAnyH_take (i := 21) (v := undef) rfl (by kernel_rfl) (by kernel_rfl) (by kernel_rfl) (fun _ _ _ h => h) (Or.inr ⟨by rfl, rfl⟩) (by assumption) ?_
                  (try simp only [Act.put, List.getElem_toArray, List.getElem_cons_zero, List.getElem_cons_succ, List.setIfInBounds_toArray, List.set_cons_zero, List.set_cons_succ])
                  refine wpAnyH_take (i := 22) (v := ?_) rfl (by kernel_rfl) (by kernel_rfl) (by kernel_rfl) (fun _ _ _ h => h) (Or.inl ⟨by rfl, ?_⟩) (by assumption) ?_
                  rotate_left
                  · (intro w hSw; (try dsimp only at hSw); go_simp; (try with_reducible rfl))
                  (try simp only [Act.put, List.getElem_toArray, List.getElem_cons_zero, List.getElem_cons_succ, List.setIfInBounds_toArray, List.set_cons_zero, List.set_cons_succ])
                  refine wpAnyH_done (by kernel_rfl) ?_ _
                  refine NoPanic.normal ?_
                  go_wp2_with fail
                  go_meet
                  exact ⟨n, by rw [hN.out], by omega, hn2, hrun, Or.inr (Or.inl (by rw [hN.out]; exact hB.out)), bn.drew⟩
                · have d2 : decide ((N : Int) < 400) = true := decide_eq_true (by omega)
                  have d2N : decide (N < 400) = true := decide_eq_true (by omega)
                  have hat := HAT.out _ bn
                  have hi1 : i + N < ps.length := by omega
                  have hi2 : i + n < ps.length := by omega
                  have K1 : wr.drew.cell? ⟨b, lo + i * 2 + N * 2, none⟩ = some (.int .i64 (vidN ps (i + N))) := by
                    have q := hat (i + N) hi1 0 (.int .i64 ps[i + N].vid) rfl
                    rw [← vidN_get hi1, Nat.add_zero, show lo + (i + N) * 2 = lo + i * 2 + N * 2 by omega] at q
                    exact q
                  have K2 : wr.drew.cell? ⟨b, lo + i * 2 + n * 2, none⟩ = some (.int .i64 (vidN ps (i + n))) := by
                    have q := hat (i + n) hi2 0 (.int .i64 ps[i + n].vid) rfl
                    rw [← vidN_get hi2, Nat.add_zero, show lo + (i + n) * 2 = lo + i * 2 + n * 2 by omega] at q
                    exact q
                  have hvp := HVR.out _ hi2
                  have HMO : Hid (vidN ps (i + N) = vidN ps (i + n) + 1 → RunN ps i (N + 1)) := fun e => by
                    subst hN
                    exact hrun.more e
                  have HNO : Hid (¬ vidN ps (i + N) = vidN ps (i + n) + 1 → vidN ps (i + (n + 1)) ≠ vidN ps (i + n) + 1) := fun e => by
                    subst hN
                    exact e
                  have hNi1 : (N : Int) < (r : Int) := by omega
                  have hNi2 : (n : Int) < (r : Int) := by omega
                  have hNi3 : (0 : Int) ≤ (N : Int) := by omega
                  have hNi4 : (0 : Int) ≤ (n : Int) := by omega
                  have hN1w : IntKind.i64.wrap ((N : Int) + 1) = ((N + 1 : Nat) : Int) := by rw [IntKind.wrap_i64] <;> omega
                  generalize vidN ps (i + N) = vn at *
                  generalize hvq : vidN ps (i + n) = vp at *
                  have hw1 : IntKind.i64.wrap (vp + 1) = vp + 1 := by rw [IntKind.wrap_i64] <;> omega
                  replace hN := Lib.hid hN
                  replace hvq := Lib.hid hvq
                  clear hat hvp
                  by_cases hE : vn = vp + 1
                  · have dE : (vn == vp + 1) = true := by rw [beq_iff_eq]; exact hE
                    have hmo := Lib.hid (HMO.out hE)
                    replace hE := Lib.hid hE
                    clear HMO HNO
                    go_upto_region 12 with (fail)
                    refine wp_region_noPanic ?_
                    refine wp_region_held_drew (S := (fun w' => w'.cell? ⟨b, lo + i * 2 + N * 2, none⟩ = some (.int .i64 vn) ∧ w'.cell? ⟨b, lo + i * 2 + n * 2, none⟩ = some (.int .i64 vp))) (by kernel_rfl) ?_ (fun hHeld => ?_)
                    · exact ⟨K1, K2⟩
                    refine wpAnyH_take (i := 0) (v := ?_) rfl (by kernel_rfl) (by kernel_rfl) (by kernel_rfl) (fun _ _ _ h => h) (Or.inl ⟨by rfl, ?_⟩) (by assumption) ?_
                    rotate_left
                    · (intro w hSw; (try dsimp only at hSw); go_simp; (try with_reducible rfl))
                    (try simp only [Act.put, List.getElem_toArray, List.getElem_cons_zero, List.getElem_cons_succ, List.setIfInBounds_toArray, List.set_cons_zero, List.set_cons_succ])
                    refine wpAnyH_take (i := 1) (v := ?_) rfl (by kernel_rfl) (by kernel_rfl) (by kernel_rfl) (fun _ _ _ h => h) (Or.inl ⟨by rfl, ?_⟩) (by assumption) ?_
                    rotate_left
                    · (intro w hSw; (try dsimp only at hSw); go_simp; (try with_reducible rfl))
                    (try simp only [Act.put, List.getElem_toArray, List.getElem_cons_zero, List.getElem_cons_succ, List.setIfInBounds_toArray, List.set_cons_zero, List.set_cons_succ])
                    refine wpAnyH_take (i := 2) (v := ?_) rfl (by kernel_rfl) (by kernel_rfl) (by kernel_rfl) (fun _ _ _ h => h) (Or.inl ⟨by rfl, ?_⟩) (by assumption) ?_
                    rotate_left
                    · (intro w hSw; (try dsimp only at hSw); go_simp; (try with_reducible rfl))
                    (try simp only [Act.put, List.getElem_toArray, List.getElem_cons_zero, List.getElem_cons_succ, List.setIfInBounds_toArray, List.set_cons_zero, List.set_cons_succ])
                    refine wpAnyH_take (i := 3) (v := ?_) rfl (by kernel_rfl) (by kernel_rfl) (by kernel_rfl) (fun _ _ _ h => h) (Or.inl ⟨by rfl, ?_⟩) (by assumption) ?_
                    rotate_left
                    · (intro w hSw; (try dsimp only at hSw); go_simp; (try with_reducible rfl))
                    (try simp only [Act.put, List.getElem_toArray, List.getElem_cons_zero, List.getElem_cons_succ, List.setIfInBounds_toArray, List.set_cons_zero, List.set_cons_succ])
                    refine wpAnyH_take (i := 4) (v := ?_) rfl (by kernel_rfl) (by kernel_rfl) (by kernel_rfl) (fun _ _ _ h => h) (Or.inl ⟨by rfl, ?_⟩) (by assumption) ?_
                    rotate_left
                    · (intro w hSw; (try dsimp only at hSw); go_simp; (try with_reducible rfl))
                    (try simp only [Act.put, List.getElem_toArray, List.getElem_cons_zero, List.getElem_cons_succ, List.setIfInBounds_toArray, List.set_cons_zero, List.set_cons_succ])
                    refine wpAnyH_take (i := 5) (v := ?_) rfl (by kernel_rfl) (by kernel_rfl) (by kernel_rfl) (fun _ _ _ h => h) (Or.inl ⟨by rfl, ?_⟩) (by assumption) ?_
                    rotate_left
                    · (intro w hSw; (try dsimp only at hSw); go_simp; (try with_reducible rfl))
                    (try simp only [Act.put, List.getElem_toArray, List.getElem_cons_zero, List.getElem_cons_succ, List.setIfInBounds_toArray, List.set_cons_zero, List.set_cons_succ])
                    refine wpAnyH_take (i := 6) (v := ?_) rfl (by kernel_rfl) (by kernel_rfl) (by kernel_rfl) (fun _ _ _ h => h) (Or.inl ⟨by rfl, ?_⟩) (by assumption) ?_
                    rotate_left
                    · (intro w hSw; (try dsimp only at hSw); go_simp; (try with_reducible rfl))
                    (try simp only [Act.put, List.getElem_toArray, List.getElem_cons_zero, List.getElem_cons_succ, List.setIfInBounds_toArray, List.set_cons_zero, List.set_cons_succ])
                    refine wpAnyH_take (i := 7) (v := ?_) rfl (by kernel_rfl) (by kernel_rfl) (by kernel_rfl) (fun _ _ _ h => h) (Or.inl ⟨by rfl, ?_⟩) (by assumption) ?_
                    rotate_left
                    · (intro w hSw; (try dsimp only at hSw); go_simp; (try with_reducible rfl))
                    (try simp only [Act.put, List.getElem_toArray, List.getElem_cons_zero, List.getElem_cons_succ, List.setIfInBounds_toArray, List.set_cons_zero, List.set_cons_succ])
                    refine wpAnyH_take (i := 8) (v := ?_) rfl (by kernel_rfl) (by kernel_rfl) (by kernel_rfl) (fun _ _ _ h => h) (Or.inl ⟨by rfl, ?_⟩) (by assumption) ?_
                    rotate_left
                    · (intro w hSw; (try dsimp only at hSw); go_simp; (try with_reducible rfl))
                    (try simp only [Act.put, List.getElem_toArray, List.getElem_cons_zero, List.getElem_cons_succ, List.setIfInBounds_toArray, List.set_cons_zero, List.set_cons_succ])
                    refine wpAnyH_take (i := 9) (v := ?_) rfl (by kernel_rfl) (by kernel_rfl) (by kernel_rfl) (fun _ _ _ h => h) (Or.inl ⟨by rfl, ?_⟩) (by assumption) ?_
                    rotate_left
                    · (intro w hSw; (try dsimp only at hSw); go_simp; (try with_reducible rfl))
                    (try simp only [Act.put, List.getElem_toArray, List.getElem_cons_zero, List.getElem_cons_succ, List.setIfInBounds_toArray, List.set_cons_zero, List.set_cons_succ])
                    refine wpAnyH_take (i := 10) (v := ?_) rfl (by kernel_rfl) (by kernel_rfl) (by kernel_rfl) (fun _ _ _ h => h) (Or.inl ⟨by rfl, ?_⟩) (by assumption) ?_
                    rotate_left
                    · (intro w hSw; (try dsimp only at hSw); go_simp; (try with_reducible rfl))
                    (try simp only [Act.put, List.getElem_toArray, List.getElem_cons_zero, List.getElem_cons_succ, List.setIfInBounds_toArray, List.set_cons_zero, List.set_cons_succ])
                    refine wpAnyH_take (i := 11) (v := ?_) rfl (by kernel_rfl) (by kernel_rfl) (by kernel_rfl) (fun _ _ _ h => h) (Or.inl ⟨by rfl, ?_⟩) (by assumption) ?_
                    rotate_left
                    · (intro w hSw; (try dsimp only at hSw); go_simp; (try with_reducible rfl))
                    (try simp only [Act.put, List.getElem_toArray, List.getElem_cons_zero, List.getElem_cons_succ, List.setIfInBounds_toArray, List.set_cons_zero, List.set_cons_succ])
                    refine wpAnyH_take (i := 12) (v := ?_) rfl (by kernel_rfl) (by kernel_rfl) (by kernel_rfl) (fun _ _ _ h => h) (Or.inl ⟨by rfl, ?_⟩) (by assumption) ?_
                    rotate_left
                    · (intro w hSw; (try dsimp only at hSw); go_simp; (try with_reducible rfl))
                    (try simp only [Act.put, List.getElem_toArray, List.getElem_cons_zero, List.getElem_cons_succ, List.setIfInBounds_toArray, List.set_cons_zero, List.set_cons_succ])
                    refine wpAnyH_take (i := 13) (v := .int .i64 vn) rfl (by kernel_rfl) (by kernel_rfl) (by kernel_rfl) (fun _ _ _ h => h) (Or.inl ⟨by rfl, fun w hSw => by have c := hSw.1; go_simp⟩) (by assumption) ?_
                    (try simp only [Act.put, List.getElem_toArray, List.getElem_cons_zero, List.getElem_cons_succ, List.setIfInBounds_toArray, List.set_cons_zero, List.set_cons_succ])
                    refine wpAnyH_take (i := 14) (v := ?_) rfl (by kernel_rfl) (by kernel_rfl) (by kernel_rfl) (fun _ _ _ h => h) (Or.inl ⟨by rfl, ?_⟩) (by assumption) ?_
                    rotate_left
                    · (intro w hSw; (try dsimp only at hSw); go_simp; (try with_reducible rfl))
                    (try simp only [Act.put, List.getElem_toArray, List.getElem_cons_zero, List.getElem_cons_succ, List.setIfInBounds_toArray, List.set_cons_zero, List.set_cons_succ])
                    refine wpAnyH_take (i := 15) (v := ?_) rfl (by kernel_rfl) (by kernel_rfl) (by kernel_rfl) (fun _ _ _ h => h) (Or.inl ⟨by rfl, ?_⟩) (by assumption) ?_
                    rotate_left
                    · (intro w hSw; (try dsimp only at hSw); go_simp; (try with_reducible rfl))
                    (try simp only [Act.put, List.getElem_toArray, List.getElem_cons_zero, List.getElem_cons_succ, List.setIfInBounds_toArray, List.set_cons_zero, List.set_cons_succ])
                    refine wpAnyH_take (i := 16) (v := ?_) rfl (by kernel_rfl) (by kernel_rfl) (by kernel_rfl) (fun _ _ _ h => h) (Or.inl ⟨by rfl, ?_⟩) (by assumption) ?_
                    rotate_left
                    · (intro w hSw; (try dsimp only at hSw); go_simp; (try with_reducible rfl))
                    (try simp only [Act.put, List.getElem_toArray, List.getElem_cons_zero, List.getElem_cons_succ, List.setIfInBounds_toArray, List.set_cons_zero, List.set_cons_succ])
                    refine wpAnyH_take (i := 17) (v := ?_) rfl (by kernel_rfl) (by kernel_rfl) (by kernel_rfl) (fun _ _ _ h => h) (Or.inl ⟨by rfl, ?_⟩) (by assumption) ?_
                    rotate_left
                    · (intro w hSw; (try dsimp only at hSw); go_simp; (try with_reducible rfl))
                    (try simp only [Act.put, List.getElem_toArray, List.getElem_cons_zero, List.getElem_cons_succ, List.setIfInBounds_toArray, List.set_cons_zero, List.set_cons_succ])
                    refine wpAnyH_take (i := 18) (v := ?_) rfl (by kernel_rfl) (by kernel_rfl) (by kernel_rfl) (fun _ _ _ h => h) (Or.inl ⟨by rfl, ?_⟩) (by assumption) ?_
                    rotate_left
                    · (intro w hSw; (try dsimp only at hSw); go_simp; (try with_reducible rfl))
                    (try simp only [Act.put, List.getElem_toArray, List.getElem_cons_zero, List.getElem_cons_succ, List.setIfInBounds_toArray, List.set_cons_zero, List.set_cons_succ])
                    refine wpAnyH_take (i := 19) (v := .int .i64 vp) rfl (by kernel_rfl) (by kernel_rfl) (by kernel_rfl) (fun _ _ _ h => h) (Or.inl ⟨by rfl, fun w hSw => by have c := hSw.2; go_simp⟩) (by assumption) ?_
                    (try simp only [Act.put, List.getElem_toArray, List.getElem_cons_zero, List.getElem_cons_succ, List.setIfInBounds_toArray, List.set_cons_zero, List.set_cons_succ])
                    refine wpAnyH_take (i := 20) (v := ?_) rfl (by kernel_rfl) (by kernel_rfl) (by kernel_rfl) (fun _ _ _ h => h) (Or.inl ⟨by rfl, ?_⟩) (by assumption) ?_
                    rotate_left
                    · (intro w hSw; (try dsimp only at hSw); go_simp; (try with_reducible rfl))
                    (try simp only [Act.put, List.getElem_toArray, List.getElem_cons_zero, List.getElem_cons_succ, List.setIfInBounds_toArray, List.set_cons_zero, List.set_cons_succ])
                    refine wpAnyH_take (i := 21) (v := .bool true) rfl (by kernel_rfl) (by kernel_rfl) (by kernel_rfl) (fun _ _ _ h => h) (Or.inl ⟨by rfl, fun w hSw => by go_simp⟩) (by assumption) ?_
                    (try simp only [Act.put, List.getElem_toArray, List.getElem_cons_zero, List.getElem_cons_succ, List.setIfInBounds_toArray, List.set_cons_zero, List.set_cons_succ])
                    refine wpAnyH_take (i := 22) (v := ?_) rfl (by kernel_rfl) (by kernel_rfl) (by kernel_rfl) (fun _ _ _ h => h) (Or.inl ⟨by rfl, ?_⟩) (by assumption) ?_
                    rotate_left
                    · (intro w hSw; (try dsimp only at hSw); go_simp; (try with_reducible rfl))
                    (try simp only [Act.put, List.getElem_toArray, List.getElem_cons_zero, List.getElem_cons_succ, List.setIfInBounds_toArray, List.set_cons_zero, List.set_cons_succ])
                    refine wpAnyH_done (by kernel_rfl) ?_ _
                    refine NoPanic.normal ?_
                    go_wp2
                    go_roundw
                    case rel => exact ⟨N, by first | rfl | exact congrArg _ hN1w, by omega, by omega, hmo.out, bn.drew⟩
                    case measure => have q := hN.out; simp [intOf]; omega
                  · have dE : (vn == vp + 1) = false := by rw [beq_eq_false_iff_ne]; exact hE
                    have hno := Lib.hid (HNO.out hE)
                    replace hE := Lib.hid hE
                    clear HMO HNO
                    go_upto_region 12 with (fail)
                    refine wp_region_noPanic ?_
                    refine wp_region_held_drew (S := (fun w' => w'.cell? ⟨b, lo + i * 2 + N * 2, none⟩ = some (.int .i64 vn) ∧ w'.cell? ⟨b, lo + i * 2 + n * 2, none⟩ = some (.int .i64 vp))) (by kernel_rfl) ?_ (fun hHeld => ?_)
                    · exact ⟨K1, K2⟩
                    refine wpAnyH_take (i := 0) (v := ?_) rfl (by kernel_rfl) (by kernel_rfl) (by kernel_rfl) (fun _ _ _ h => h) (Or.inl ⟨by rfl, ?_⟩) (by assumption) ?_
                    rotate_left
                    · (intro w hSw; (try dsimp only at hSw); go_simp; (try with_reducible rfl))
                    (try simp only [Act.put, List.getElem_toArray, List.getElem_cons_zero, List.getElem_cons_succ, List.setIfInBounds_toArray, List.set_cons_zero, List.set_cons_succ])
                    refine wpAnyH_take (i := 1) (v := ?_) rfl (by kernel_rfl) (by kernel_rfl) (by kernel_rfl) (fun _ _ _ h => h) (Or.inl ⟨by rfl, ?_⟩) (by assumption) ?_
                    rotate_left
                    · (intro w hSw; (try dsimp only at hSw); go_simp; (try with_reducible rfl))
                    (try simp only [Act.put, List.getElem_toArray, List.getElem_cons_zero, List.getElem_cons_succ, List.setIfInBounds_toArray, List.set_cons_zero, List.set_cons_succ])
                    refine wpAnyH_take (i := 2) (v := ?_) rfl (by kernel_rfl) (by kernel_rfl) (by kernel_rfl) (fun _ _ _ h => h) (Or.inl ⟨by rfl, ?_⟩) (by assumption) ?_
                    rotate_left
                    · (intro w hSw; (try dsimp only at hSw); go_simp; (try with_reducible rfl))
                    (try simp only [Act.put, List.getElem_toArray, List.getElem_cons_zero, List.getElem_cons_succ, List.setIfInBounds_toArray, List.set_cons_zero, List.set_cons_succ])
                    refine wpAnyH_take (i := 3) (v := ?_) rfl (by kernel_rfl) (by kernel_rfl) (by kernel_rfl) (fun _ _ _ h => h) (Or.inl ⟨by rfl, ?_⟩) (by assumption) ?_
                    rotate_left
                    · (intro w hSw; (try dsimp only at hSw); go_simp; (try with_reducible rfl))
                    (try simp only [Act.put, List.getElem_toArray, List.getElem_cons_zero, List.getElem_cons_succ, List.setIfInBounds_toArray, List.set_cons_zero, List.set_cons_succ])
                    refine wpAnyH_take (i := 4) (v := ?_) rfl (by kernel_rfl) (by kernel_rfl) (by kernel_rfl) (fun _ _ _ h => h) (Or.inl ⟨by rfl, ?_⟩) (by assumption) ?_
                    rotate_left
                    · (intro w hSw; (try dsimp only at hSw); go_simp; (try with_reducible rfl))
                    (try simp only [Act.put, List.getElem_toArray, List.getElem_cons_zero, List.getElem_cons_succ, List.setIfInBounds_toArray, List.set_cons_zero, List.set_cons_succ])
                    refine wpAnyH_take (i := 5) (v := ?_) rfl (by kernel_rfl) (by kernel_rfl) (by kernel_rfl) (fun _ _ _ h => h) (Or.inl ⟨by rfl, ?_⟩) (by assumption) ?_
                    rotate_left
                    · (intro w hSw; (try dsimp only at hSw); go_simp; (try with_reducible rfl))
                    (try simp only [Act.put, List.getElem_toArray, List.getElem_cons_zero, List.getElem_cons_succ, List.setIfInBounds_toArray, List.set_cons_zero, List.set_cons_succ])
                    refine wpAnyH_take (i := 6) (v := ?_) rfl (by kernel_rfl) (by kernel_rfl) (by kernel_rfl) (fun _ _ _ h => h) (Or.inl ⟨by rfl, ?_⟩) (by assumption) ?_
                    rotate_left
                    · (intro w hSw; (try dsimp only at hSw); go_simp; (try with_reducible rfl))
                    (try simp only [Act.put, List.getElem_toArray, List.getElem_cons_zero, List.getElem_cons_succ, List.setIfInBounds_toArray, List.set_cons_zero, List.set_cons_succ])
                    refine wpAnyH_take (i := 7) (v := ?_) rfl (by kernel_rfl) (by kernel_rfl) (by kernel_rfl) (fun _ _ _ h => h) (Or.inl ⟨by rfl, ?_⟩) (by assumption) ?_
                    rotate_left
                    · (intro w hSw; (try dsimp only at hSw); go_simp; (try with_reducible rfl))
                    (try simp only [Act.put, List.getElem_toArray, List.getElem_cons_zero, List.getElem_cons_succ, List.setIfInBounds_toArray, List.set_cons_zero, List.set_cons_succ])
                    refine wpAnyH_take (i := 8) (v := ?_) rfl (by kernel_rfl) (by kernel_rfl) (by kernel_rfl) (fun _ _ _ h => h) (Or.inl ⟨by rfl, ?_⟩) (by assumption) ?_
                    rotate_left
                    · (intro w hSw; (try dsimp only at hSw); go_simp; (try with_reducible rfl))
                    (try simp only [Act.put, List.getElem_toArray, List.getElem_cons_zero, List.getElem_cons_succ, List.setIfInBounds_toArray, List.set_cons_zero, List.set_cons_succ])
                    refine wpAnyH_take (i := 9) (v := ?_) rfl (by kernel_rfl) (by kernel_rfl) (by kernel_rfl) (fun _ _ _ h => h) (Or.inl ⟨by rfl, ?_⟩) (by assumption) ?_
                    rotate_left
                    · (intro w hSw; (try dsimp only at hSw); go_simp; (try with_reducible rfl))
                    (try simp only [Act.put, List.getElem_toArray, List.getElem_cons_zero, List.getElem_cons_succ, List.setIfInBounds_toArray, List.set_cons_zero, List.set_cons_succ])
                    refine wpAnyH_take (i := 10) (v := ?_) rfl (by kernel_rfl) (by kernel_rfl) (by kernel_rfl) (fun _ _ _ h => h) (Or.inl ⟨by rfl, ?_⟩) (by assumption) ?_
                    rotate_left
                    · (intro w hSw; (try dsimp only at hSw); go_simp; (try with_reducible rfl))
                    (try simp only [Act.put, List.getElem_toArray, List.getElem_cons_zero, List.getElem_cons_succ, List.setIfInBounds_toArray, List.set_cons_zero, List.set_cons_succ])
                    refine wpAnyH_take (i := 11) (v := ?_) rfl (by kernel_rfl) (by kernel_rfl) (by kernel_rfl) (fun _ _ _ h => h) (Or.inl ⟨by rfl, ?_⟩) (by assumption) ?_
                    rotate_left
                    · (intro w hSw; (try dsimp only at hSw); go_simp; (try with_reducible rfl))
                    (try simp only [Act.put, List.getElem_toArray, List.getElem_cons_zero, List.getElem_cons_succ, List.setIfInBounds_toArray, List.set_cons_zero, List.set_cons_succ])
                    refine wpAnyH_take (i := 12) (v := ?_) rfl (by kernel_rfl) (by kernel_rfl) (by kernel_rfl) (fun _ _ _ h => h) (Or.inl ⟨by rfl, ?_⟩) (by assumption) ?_
                    rotate_left
                    · (intro w hSw; (try dsimp only at hSw); go_simp; (try with_reducible rfl))
                    (try simp only [Act.put, List.getElem_toArray, List.getElem_cons_zero, List.getElem_cons_succ, List.setIfInBounds_toArray, List.set_cons_zero, List.set_cons_succ])
                    refine wpAnyH_take (i := 13) (v := .int .i64 vn) rfl (by kernel_rfl) (by kernel_rfl) (by kernel_rfl) (fun _ _ _ h => h) (Or.inl ⟨by rfl, fun w hSw => by have c := hSw.1; go_simp⟩) (by assumption) ?_
                    (try simp only [Act.put, List.getElem_toArray, List.getElem_cons_zero, List.getElem_cons_succ, List.setIfInBounds_toArray, List.set_cons_zero, List.set_cons_succ])
                    refine wpAnyH_take (i := 14) (v := ?_) rfl (by kernel_rfl) (by kernel_rfl) (by kernel_rfl) (fun _ _ _ h => h) (Or.inl ⟨by rfl, ?_⟩) (by assumption) ?_
                    rotate_left
                    · (intro w hSw; (try dsimp only at hSw); go_simp; (try with_reducible rfl))
                    (try simp only [Act.put, List.getElem_toArray, List.getElem_cons_zero, List.getElem_cons_succ, List.setIfInBounds_toArray, List.set_cons_zero, List.set_cons_succ])
                    refine wpAnyH_take (i := 15) (v := ?_) rfl (by kernel_rfl) (by kernel_rfl) (by kernel_rfl) (fun _ _ _ h => h) (Or.inl ⟨by rfl, ?_⟩) (by assumption) ?_
                    rotate_left
                    · (intro w hSw; (try dsimp only at hSw); go_simp; (try with_reducible rfl))
                    (try simp only [Act.put, List.getElem_toArray, List.getElem_cons_zero, List.getElem_cons_succ, List.setIfInBounds_toArray, List.set_cons_zero, List.set_cons_succ])
                    refine wpAnyH_take (i := 16) (v := ?_) rfl (by kernel_rfl) (by kernel_rfl) (by kernel_rfl) (fun _ _ _ h => h) (Or.inl ⟨by rfl, ?_⟩) (by assumption) ?_
                    rotate_left
                    · (intro w hSw; (try dsimp only at hSw); go_simp; (try with_reducible rfl))
                    (try simp only [Act.put, List.getElem_toArray, List.getElem_cons_zero, List.getElem_cons_succ, List.setIfInBounds_toArray, List.set_cons_zero, List.set_cons_succ])
                    refine wpAnyH_take (i := 17) (v := ?_) rfl (by kernel_rfl) (by kernel_rfl) (by kernel_rfl) (fun _ _ _ h => h) (Or.inl ⟨by rfl, ?_⟩) (by assumption) ?_
                    rotate_left
                    · (intro w hSw; (try dsimp only at hSw); go_simp; (try with_reducible rfl))
                    (try simp only [Act.put, List.getElem_toArray, List.getElem_cons_zero, List.getElem_cons_succ, List.setIfInBounds_toArray, List.set_cons_zero, List.set_cons_succ])
                    refine wpAnyH_take (i := 18) (v := ?_) rfl (by kernel_rfl) (by kernel_rfl) (by kernel_rfl) (fun _ _ _ h => h) (Or.inl ⟨by rfl, ?_⟩) (by assumption) ?_
                    rotate_left
                    · (intro w hSw; (try dsimp only at hSw); go_simp; (try with_reducible rfl))
                    (try simp only [Act.put, List.getElem_toArray, List.getElem_cons_zero, List.getElem_cons_succ, List.setIfInBounds_toArray, List.set_cons_zero, List.set_cons_succ])
                    refine wpAnyH_take (i := 19) (v := .int .i64 vp) rfl (by kernel_rfl) (by kernel_rfl) (by kernel_rfl) (fun _ _ _ h => h) (Or.inl ⟨by rfl, fun w hSw => by have c := hSw.2; go_simp⟩) (by assumption) ?_
                    (try simp only [Act.put, List.getElem_toArray, List.getElem_cons_zero, List.getElem_cons_succ, List.setIfInBounds_toArray, List.set_cons_zero, List.set_cons_succ])
                    refine wpAnyH_take (i := 20) (v := ?_) rfl (by kernel_rfl) (by kernel_rfl) (by kernel_rfl) (fun _ _ _ h => h) (Or.inl ⟨by rfl, ?_⟩) (by assumption) ?_
                    rotate_left
                    · (intro w hSw; (try dsimp only at hSw); go_simp; (try with_reducible rfl))
                    (try simp only [Act.put, List.getElem_toArray, List.getElem_cons_zero, List.getElem_cons_succ, List.setIfInBounds_toArray, List.set_cons_zero, List.set_cons_succ])
                    refine wpAnyH_take (i := 21) (v := .bool false) rfl (by kernel_rfl) (by kernel_rfl) (by kernel_rfl) (fun _ _ _ h => h) (Or.inl ⟨by rfl, fun w hSw => by go_simp⟩) (by assumption) ?_
                    (try simp only [Act.put, List.getElem_toArray, List.getElem_cons_zero, List.getElem_cons_succ, List.setIfInBounds_toArray, List.set_cons_zero, List.set_cons_succ])
                    refine wpAnyH_take (i := 22) (v := ?_) rfl (by kernel_rfl) (by kernel_rfl) (by kernel_rfl) (fun _ _ _ h => h) (Or.inl ⟨by rfl, ?_⟩) (by assumption) ?_
                    rotate_left
                    · (intro w hSw; (try dsimp only at hSw); go_simp; (try with_reducible rfl))
                    (try simp only [Act.put, List.getElem_toArray, List.getElem_cons_zero, List.getElem_cons_succ, List.setIfInBounds_toArray, List.set_cons_zero, List.set_cons_succ])
                    refine wpAnyH_done (by kernel_rfl) ?_ _
                    refine NoPanic.normal ?_
                    go_wp2_with fail
                    go_meet
                    exact ⟨n, by rw [hN.out], by omega, hn2, hrun, Or.inr (Or.inr (by rw [hvq.out]; exact hno.out)), bn.drew⟩
          case rest =>
            obtain ⟨n, rfl, hn1, hn2, hrun, hend, bn⟩ := hcut
            obtain ⟨N, hN⟩ : ∃ N, n + 1 = N := ⟨_, rfl⟩
            have HPC : Hid (mpkL (ps.take (i + N)) = mpkL (ps.take i) ++ [⟨false, vidN ps i, evN ps i N⟩]) := by
              show _ = _
              subst hN
              exact pack_chunk ps i hng'.out n (by omega) (by omega) hrun
            have HNX : Hid (i + N < ps.length → NoGo (mpkL (ps.take (i + N))) (vidN ps (i + N))) := fun q => by
              rw [HPC.out]
              subst hN
              exact nogo_next ps i n q _ hrun (hend.resolve_left (by omega))
            rw [hN]
            have hNp : 0 < N := by omega
            have hN4 : N ≤ 400 := by omega
            have hNr : N ≤ r := by omega
            have HEL : Hid (∀ j, j ≤ N → (evN ps i j).length = j) := fun j hj => evN_len ps i j (by omega)
            clear hrun hend hN hn1 hn2 hng'
            have hat := HAT.out _ bn
            have hi0 : i < ps.length := by omega
            have K0 : wc.cell? ⟨b, lo + i * 2, none⟩ = some (.int .i64 (vidN ps i)) := by
              have q := hat i hi0 0 (.int .i64 ps[i].vid) rfl
              rw [← vidN_get hi0] at q
              exact q
            have HCA : Hid (∀ W j, j < N → Below wc.heap.size wc W → ∃ p : Pr, CellsAt W b (lo + i * 2 + j * 2) (prC p) ∧ evN ps i (j + 1) = evN ps i j ++ [p.ev]) := fun W j hj hb => by
              have hij : i + j < ps.length := by omega
              refine ⟨ps[i + j], ?_, evN_snoc ps i j hij⟩
              have q := HAT.out W (bn.trans (hb.mono bn.size)) (i + j) hij
              rw [show lo + (i + j) * 2 = lo + i * 2 + j * 2 by omega] at q
              exact q
            have hOc := hO.kept bn
            have HZc := HZi.kept bn
            have Bc := Bi.trans (bn.mono hsi)
            have hsc : base ≤ wc.heap.size := Nat.le_trans hsi bn.size
            clear hO HZi Bi hsi bn hat HAT
            generalize vidN ps i = f at *
            have HY0 := Blk.new wc 92 (mvC zMvH)
            have d0 : Below wc.heap.size wc (wc.alloc (.cells (mvC zMvH) 92)) := (Below.refl _ _).alloc (Nat.le_refl _) _
            have hr3 : (0 : Int) < (r : Int) := by omega
            go_upto_region 15 with (first
              | (refine build_blk (t := 92) (mvC ⟨⟨false, f, []⟩, none, 0⟩) (by rfl) rfl (by kernel_rfl) ?_)
              | (refine alloc_blk 92 (mvC zMvH) (by rfl) rfl Tryd.mhZero ?_)
              | (refine store_blk (k := 0) 92 (.agg (mvC ⟨⟨false, f, []⟩, none, 0⟩)) (mvC ⟨⟨false, f, []⟩, none, 0⟩) (by rfl) rfl rfl rfl HY0 (by kernel_rfl) (show (3 : Nat) ≤ 3 from Nat.le_refl 3) (by rfl) (st_whole _ _ rfl) ?_; intro w5 HY5 b5 g5))
            have B5 : Below wc.heap.size wc w5 := d0.trans b5
            have hA5 : wc.heap.size + 1 ≤ w5.heap.size := HY5.lt
            have hI5 := OwnIv.nil w5 (wc.heap.size + 1)
            obtain ⟨A, hA⟩ : ∃ A, wc.heap.size = A := ⟨_, rfl⟩
            have hvA : some A ≠ v.ownBlock := by
              intro e
              rcases hOc.row with ⟨_, rfl⟩ | ⟨_, q, cap, rfl, h2⟩
              · cases e
              · cases e
                have := (h2.lt _ rfl).2
                omega
            have hbA : base < A := by rw [← hA]; exact HZc.lt
            have hsl : hs.length ≤ 100000 := by
              have q := mpkL_len (ps.take i) []
              have q2 := congrArg List.length HHS.out
              rw [xs_len] at q2
              rw [List.length_take] at q
              unfold mpkL at q2
              simp only [List.length_nil, Nat.zero_add] at q
              omega
            rw [hA] at HY5 B5 hA5 hI5 hsc HCA
            clear HY0 d0 b5 g5 K0
            have hNc : (N : Int) ≤ (c' : Int) := by omega
            have hNc0 : (0 : Int) ≤ (N : Int) := by omega
            go_wp2_with fail
            go_loopw [89] (fun v wx => ∃ (j : Nat) (u : Value), j ≤ N ∧ v = .int .i64 j ∧ OwnIv wx (A + 1) u (evN ps i j) ∧ Blk wx A 92 #[.bool false, .int .i64 f, u] ∧ Below A wc wx ∧ A + 1 ≤ wx.heap.size) (fun v _ => N - (intOf v).toNat)
            case atStart => exact ⟨0, _, Nat.zero_le _, rfl, hI5, HY5, B5, hA5⟩
            case round =>
              obtain ⟨j, u, hj, rfl, HI, HY, Bj, hsj⟩ := hrel
              clear hI5 HY5 B5 hA5
              by_cases hlt : j < N
              · obtain ⟨p, HK, hsn0⟩ := HCA.out wr j hlt Bj
                have hsn := Lib.hid hsn0
                have hel := HEL.out j hj
                obtain ⟨a1, c1, rfl, -⟩ := HI.inL
                rw [hel] at HI HY
                replace hel := Lib.hid hel
                have hll : (evN ps i j).length ≤ 100000 := by have := hel.out; omega
                clear hsn0
                generalize evN ps i j = E0 at *
                have j1 : (j : Int) < (N : Int) := by omega
                have j2 : decide ((j : Int) < (N : Int)) = true := decide_eq_true j1
                have j3 : (0 : Int) ≤ (j : Int) := by omega
                have j4 : IntKind.i64.wrap ((j : Int) + 1) = (j : Int) + 1 := by rw [IntKind.wrap_i64] <;> omega
                have HP4 := Blk.new wr 83 (prC zPr)
                have e4 : Below wr.heap.size wr (wr.alloc (.cells (prC zPr) 83)) := (Below.refl _ _).alloc (Nat.le_refl _) _
                go_upto_region 18 with (first
                  | (refine load_cells (B := b) (k := lo + i * 2 + j * 2) 83 (prC p) (by rfl) rfl rfl HK (by kernel_rfl) (by kernel_rfl) ?_)
                  | (refine alloc_blk 83 (prC zPr) (by rfl) rfl Tryd.rpZero ?_)
                  | (refine store_blk (k := 0) 83 (.agg (prC p)) (prC p) (by rfl) rfl rfl rfl HP4 (by kernel_rfl) (show (2 : Nat) ≤ 2 from Nat.le_refl 2) (by rfl) (st_whole _ _ rfl) ?_; intro w6 HP6 b6 g6))
                have e6 := e4.trans b6
                have HI6 := HI.kept e6
                have HY6 := HY.kept e6
                have B6 := Bj.trans (e6.mono (by omega))
                have hs6 : A + 1 ≤ w6.heap.size := Nat.le_trans hsj e6.size
                clear HP4 e4 b6 g6 e6 HI HY Bj HK
                generalize wr.heap.size = G at *
                have cp := HP6.cv 1 (.int .i64 p.ev) rfl
                have cy := HY6.cv 2 (.slice a1 j c1) rfl
                go_wp2_with (first
                  | (refine sliceL_iv p.ev rfl rfl rfl ?_; intro w7 HS7 b7 s7; have HI7 := HI6.kept b7; have HY7 := HY6.kept b7; have B7 := B6.trans (b7.mono (by omega)); have hs7 : A + 1 ≤ w7.heap.size := Nat.le_trans hs6 b7.size)
                  | (refine appendL_iv (v := .slice a1 j c1) p.ev rfl rfl rfl rfl HI7 HS7 hll hs7 ?_; intro v8 w8 HI8 b8 g8; have HY8 := HY7.below b8 (Nat.lt_succ_self A); have B8 := B7.trans (b8.mono (Nat.le_succ A)); have hs8 : A + 1 ≤ w8.heap.size := Nat.le_trans hs7 b8.size; obtain ⟨a9, c9, hv9, -⟩ := HI8.inL; obtain ⟨L3, hL3⟩ : ∃ L3, (E0 ++ [p.ev]).length = L3 := ⟨_, rfl⟩; rw [hL3] at hv9; replace hL3 := Lib.hid hL3; subst hv9)
                  | (refine store_blk (k := 2) 90 (.slice a9 L3 c9) #[.bool false, .int .i64 f, .slice a9 L3 c9] (by rfl) rfl rfl rfl HY8 (by kernel_rfl) (show (3 : Nat) ≤ 3 from Nat.le_refl 3) (by rfl) rfl ?_; intro w9 HY9 b9 g9))
                have HI9 := HI8.other HY8 (by decide) g9
                have B9 := B8.trans b9
                have hs9 : A + 1 ≤ w9.heap.size := Nat.le_trans hs8 g9.size
                go_roundw
                case rel => exact ⟨j + 1, _, by omega, by go_num, by rw [hsn.out]; exact HI9, HY9, B9, hs9⟩
                case measure => simp [intOf]; omega
              · obtain rfl : j = N := by omega
                have j2 : decide ((j : Int) < (j : Int)) = false := decide_eq_false (by omega)
                have hel := HEL.out j hj
                obtain ⟨a1, c1, rfl, -⟩ := HI.inL
                obtain ⟨E, hE⟩ : ∃ E, evN ps i j = E := ⟨_, rfl⟩
                rw [hE] at HI HY hel HPC
                have HYm : Blk wr A 92 (mvC ⟨⟨false, f, E⟩, a1, c1⟩) := HY
                have hOr := hOc.kept (by rw [hA]; exact Bj)
                have HZr := HZc.below Bj hbA
                have Br := Bc.trans (Bj.mono (by omega))
                have hsr : base ≤ wr.heap.size := by omega
                have hp1 : Hid ((0 : Int) ≤ (j : Int)) := Lib.hid hNc0
                have hjr : (j : Int) ≤ (r : Int) := by omega
                clear HCA HEL hOc HY HZc Bj
                go_upto_region 20 with (fail)
                by_cases hcn : c' = j
                · skip
                  have hrj : r = j := by omega
                  subst hrj
                  subst hcn
                  replace hp1 := hp1
                  refine wp_region_noPanic ?_
                  refine wp_region_held_drew (S := (fun w' => Blk w' A 92 (mvC ⟨⟨false, f, E⟩, a1, c1⟩))) (by kernel_rfl) ?_ (fun hHeld => ?_)
                  · exact HYm.drew
                  refine wpAnyH_take (i := 0) (v := ?_) rfl (by kernel_rfl) (by kernel_rfl) (by kernel_rfl) (fun _ _ _ h => h) (Or.inl ⟨by rfl, ?_⟩) (by assumption) ?_
                  rotate_left
                  · (intro w hSw; (try dsimp only at hSw); go_simp; (try with_reducible rfl))
                  (try simp only [Act.put, List.getElem_toArray, List.getElem_cons_zero, List.getElem_cons_succ, List.setIfInBounds_toArray, List.set_cons_zero, List.set_cons_succ])
                  refine wpAnyH_take (i := 1) (v := .agg (mvC ⟨⟨false, f, E⟩, a1, c1⟩)) rfl (by kernel_rfl) (by kernel_rfl) (by kernel_rfl) (fun _ _ _ h => h) (Or.inl ⟨by rfl, fun w hSw => exec_load_blk (k := 0) 92 (mvC ⟨⟨false, f, E⟩, a1, c1⟩) rfl rfl hSw (by kernel_rfl) (by kernel_rfl) rfl⟩) (by assumption) ?_
                  (try simp only [Act.put, List.getElem_toArray, List.getElem_cons_zero, List.getElem_cons_succ, List.setIfInBounds_toArray, List.set_cons_zero, List.set_cons_succ])
                  refine wpAnyH_take (i := 4) (v := ?_) rfl (by kernel_rfl) (by kernel_rfl) (by kernel_rfl) (fun _ _ _ h => h) (Or.inl ⟨by rfl, ?_⟩) (by assumption) ?_
                  rotate_left
                  · (intro w hSw; (try dsimp only at hSw); go_simp; (try with_reducible rfl))
                  (try simp only [Act.put, List.getElem_toArray, List.getElem_cons_zero, List.getElem_cons_succ, List.setIfInBounds_toArray, List.set_cons_zero, List.set_cons_succ])
                  refine wpAnyH_take (i := 5) (v := ?_) rfl (by kernel_rfl) (by kernel_rfl) (by kernel_rfl) (fun _ _ _ h => h) (Or.inl ⟨by rfl, ?_⟩) (by assumption) ?_
                  rotate_left
                  · (intro w hSw; (try dsimp only at hSw); go_simp; (try with_reducible rfl))
                  (try simp only [Act.put, List.getElem_toArray, List.getElem_cons_zero, List.getElem_cons_succ, List.setIfInBounds_toArray, List.set_cons_zero, List.set_cons_succ])
                  refine wpAnyH_take (i := 6) (v := ?_) rfl (by kernel_rfl) (by kernel_rfl) (by kernel_rfl) (fun _ _ _ h => h) (Or.inl ⟨by rfl, ?_⟩) (by assumption) ?_
                  rotate_left
                  · (intro w hSw; (try dsimp only at hSw); go_simp; (try with_reducible rfl))
                  (try simp only [Act.put, List.getElem_toArray, List.getElem_cons_zero, List.getElem_cons_succ, List.setIfInBounds_toArray, List.set_cons_zero, List.set_cons_succ])
                  refine wpAnyH_ready (rs := [2]) (by kernel_rfl) (by simp) ?_
                  refine AllReadyH.cons rfl (fun K hK => ?_) AllReadyH.nil
                  simp only [List.getElem_toArray, List.getElem_cons_zero, List.getElem_cons_succ]
                  rw [if_pos (by rfl)]
                  refine slice_mh ⟨⟨false, f, E⟩, a1, c1⟩ rfl rfl (fun w8 HS8 b8 s8 => ?_)
                  have b8' := (Below.refl wr.heap.size wr).drew.trans b8
                  have HY8 := HYm.kept b8'
                  have hO8 := hOr.kept b8'
                  have HZ8 := HZr.kept b8'
                  have HI8 := HI.kept b8'
                  have B8 := Br.trans (b8'.mono hsr)
                  have hs8 : base ≤ w8.heap.size := Nat.le_trans hsr b8'.size
                  refine hK.out _ _ ?_ (fun hHeld => ?_)
                  · exact HY8
                  clear hK K
                  (try simp only [Act.put, List.getElem_toArray, List.getElem_cons_zero, List.getElem_cons_succ, List.setIfInBounds_toArray, List.set_cons_zero, List.set_cons_succ])
                  refine wpAnyH_ready (rs := [3]) (by kernel_rfl) (by simp) ?_
                  refine AllReadyH.cons rfl (fun K hK => ?_) AllReadyH.nil
                  simp only [List.getElem_toArray, List.getElem_cons_zero, List.getElem_cons_succ]
                  rw [if_pos (by rfl)]
                  refine append_mh (v := v) ⟨⟨false, f, E⟩, a1, c1⟩ rfl rfl rfl hO8.row HS8 hsl hs8 (fun v9 w9 HM9 b9 g9 => ?_)
                  have HY9 : Blk w9 A 92 (mvC ⟨⟨false, f, E⟩, a1, c1⟩) := HY8.grown g9 hvA
                  have HZ9 := mh_blk hO8.row g9 HZ8 (by decide)
                  have hO9 : OwnAs w9 base v9 (hs ++ [⟨⟨false, f, E⟩, a1, c1⟩]) := ⟨HM9, fun x hx => by
                    rcases List.mem_append.1 hx with q | q
                    · exact iv_mh hO8.row g9 (hO8.ev x q)
                    · rw [List.mem_singleton.1 q]
                      exact (iv_mh hO8.row g9 HI8).mono (by omega)⟩
                  have B9 := B8.trans b9
                  refine hK.out _ _ ?_ (fun hHeld => ?_)
                  · exact HY9
                  clear hK K
                  (try simp only [Act.put, List.getElem_toArray, List.getElem_cons_zero, List.getElem_cons_succ, List.setIfInBounds_toArray, List.set_cons_zero, List.set_cons_succ])
                  refine wpAnyH_take (i := 7) (v := ?_) rfl (by kernel_rfl) (by kernel_rfl) (by kernel_rfl) (fun _ _ _ h => h) (Or.inl ⟨by rfl, ?_⟩) (by assumption) ?_
                  rotate_left
                  · (intro w hSw; (try dsimp only at hSw); go_simp; (try with_reducible rfl))
                  (try simp only [Act.put, List.getElem_toArray, List.getElem_cons_zero, List.getElem_cons_succ, List.setIfInBounds_toArray, List.set_cons_zero, List.set_cons_succ])
                  refine wpAnyH_take (i := 8) (v := ?_) rfl (by kernel_rfl) (by kernel_rfl) (by kernel_rfl) (fun _ _ _ h => h) (Or.inl ⟨by rfl, ?_⟩) (by assumption) ?_
                  rotate_left
                  · (intro w hSw; (try dsimp only at hSw); go_simp; (try with_reducible rfl))
                  (try simp only [Act.put, List.getElem_toArray, List.getElem_cons_zero, List.getElem_cons_succ, List.setIfInBounds_toArray, List.set_cons_zero, List.set_cons_succ])
                  refine wpAnyH_done (by kernel_rfl) ?_ _
                  refine NoPanic.normal ?_
                  go_wp2_with fail
                  go_roundw
                  case rel => exact ⟨i + c', 0, _, _, hs ++ [⟨⟨false, f, E⟩, a1, c1⟩], v9, rfl, by omega, rfl, by omega, by omega, fun q => absurd q (Nat.lt_irrefl 0), fun q => absurd q (Nat.lt_irrefl 0), by rw [xs_last, HHS.out, HPC.out], hO9, HZ9, B9⟩
                  case measure => show 0 < c'; omega
                · skip
                  have hcn2 : ¬ j = c' := fun e => hcn e.symm
                  replace hcn := Lib.hid hcn
                  refine wp_region_noPanic ?_
                  refine wp_region_held_drew (S := (fun w' => Blk w' A 92 (mvC ⟨⟨false, f, E⟩, a1, c1⟩))) (by kernel_rfl) ?_ (fun hHeld => ?_)
                  · exact HYm.drew
                  refine wpAnyH_take (i := 0) (v := ?_) rfl (by kernel_rfl) (by kernel_rfl) (by kernel_rfl) (fun _ _ _ h => h) (Or.inl ⟨by rfl, ?_⟩) (by assumption) ?_
                  rotate_left
                  · (intro w hSw; (try dsimp only at hSw); go_simp; (try with_reducible rfl))
                  (try simp only [Act.put, List.getElem_toArray, List.getElem_cons_zero, List.getElem_cons_succ, List.setIfInBounds_toArray, List.set_cons_zero, List.set_cons_succ])
                  refine wpAnyH_take (i := 1) (v := .agg (mvC ⟨⟨false, f, E⟩, a1, c1⟩)) rfl (by kernel_rfl) (by kernel_rfl) (by kernel_rfl) (fun _ _ _ h => h) (Or.inl ⟨by rfl, fun w hSw => exec_load_blk (k := 0) 92 (mvC ⟨⟨false, f, E⟩, a1, c1⟩) rfl rfl hSw (by kernel_rfl) (by kernel_rfl) rfl⟩) (by assumption) ?_
                  (try simp only [Act.put, List.getElem_toArray, List.getElem_cons_zero, List.getElem_cons_succ, List.setIfInBounds_toArray, List.set_cons_zero, List.set_cons_succ])
                  refine wpAnyH_take (i := 4) (v := ?_) rfl (by kernel_rfl) (by kernel_rfl) (by kernel_rfl) (fun _ _ _ h => h) (Or.inl ⟨by rfl, ?_⟩) (by assumption) ?_
                  rotate_left
                  · (intro w hSw; (try dsimp only at hSw); go_simp; (try with_reducible rfl))
                  (try simp only [Act.put, List.getElem_toArray, List.getElem_cons_zero, List.getElem_cons_succ, List.setIfInBounds_toArray, List.set_cons_zero, List.set_cons_succ])
                  refine wpAnyH_take (i := 5) (v := ?_) rfl (by kernel_rfl) (by kernel_rfl) (by kernel_rfl) (fun _ _ _ h => h) (Or.inl ⟨by rfl, ?_⟩) (by assumption) ?_
                  rotate_left
                  · (intro w hSw; (try dsimp only at hSw); go_simp; (try with_reducible rfl))
                  (try simp only [Act.put, List.getElem_toArray, List.getElem_cons_zero, List.getElem_cons_succ, List.setIfInBounds_toArray, List.set_cons_zero, List.set_cons_succ])
                  refine wpAnyH_take (i := 6) (v := ?_) rfl (by kernel_rfl) (by kernel_rfl) (by kernel_rfl) (fun _ _ _ h => h) (Or.inl ⟨by rfl, ?_⟩) (by assumption) ?_
                  rotate_left
                  · (intro w hSw; (try dsimp only at hSw); go_simp; (try with_reducible rfl))
                  (try simp only [Act.put, List.getElem_toArray, List.getElem_cons_zero, List.getElem_cons_succ, List.setIfInBounds_toArray, List.set_cons_zero, List.set_cons_succ])
                  refine wpAnyH_ready (rs := [2]) (by kernel_rfl) (by simp) ?_
                  refine AllReadyH.cons rfl (fun K hK => ?_) AllReadyH.nil
                  simp only [List.getElem_toArray, List.getElem_cons_zero, List.getElem_cons_succ]
                  rw [if_pos (by rfl)]
                  refine slice_mh ⟨⟨false, f, E⟩, a1, c1⟩ rfl rfl (fun w8 HS8 b8 s8 => ?_)
                  have b8' := (Below.refl wr.heap.size wr).drew.trans b8
                  have HY8 := HYm.kept b8'
                  have hO8 := hOr.kept b8'
                  have HZ8 := HZr.kept b8'
                  have HI8 := HI.kept b8'
                  have B8 := Br.trans (b8'.mono hsr)
                  have hs8 : base ≤ w8.heap.size := Nat.le_trans hsr b8'.size
                  refine hK.out _ _ ?_ (fun hHeld => ?_)
                  · exact HY8
                  clear hK K
                  (try simp only [Act.put, List.getElem_toArray, List.getElem_cons_zero, List.getElem_cons_succ, List.setIfInBounds_toArray, List.set_cons_zero, List.set_cons_succ])
                  refine wpAnyH_ready (rs := [3]) (by kernel_rfl) (by simp) ?_
                  refine AllReadyH.cons rfl (fun K hK => ?_) AllReadyH.nil
                  simp only [List.getElem_toArray, List.getElem_cons_zero, List.getElem_cons_succ]
                  rw [if_pos (by rfl)]
                  refine append_mh (v := v) ⟨⟨false, f, E⟩, a1, c1⟩ rfl rfl rfl hO8.row HS8 hsl hs8 (fun v9 w9 HM9 b9 g9 => ?_)
                  have HY9 : Blk w9 A 92 (mvC ⟨⟨false, f, E⟩, a1, c1⟩) := HY8.grown g9 hvA
                  have HZ9 := mh_blk hO8.row g9 HZ8 (by decide)
                  have hO9 : OwnAs w9 base v9 (hs ++ [⟨⟨false, f, E⟩, a1, c1⟩]) := ⟨HM9, fun x hx => by
                    rcases List.mem_append.1 hx with q | q
                    · exact iv_mh hO8.row g9 (hO8.ev x q)
                    · rw [List.mem_singleton.1 q]
                      exact (iv_mh hO8.row g9 HI8).mono (by omega)⟩
                  have B9 := B8.trans b9
                  refine hK.out _ _ ?_ (fun hHeld => ?_)
                  · exact HY9
                  clear hK K
                  (try simp only [Act.put, List.getElem_toArray, List.getElem_cons_zero, List.getElem_cons_succ, List.setIfInBounds_toArray, List.set_cons_zero, List.set_cons_succ])
                  refine wpAnyH_take (i := 7) (v := ?_) rfl (by kernel_rfl) (by kernel_rfl) (by kernel_rfl) (fun _ _ _ h => h) (Or.inl ⟨by rfl, ?_⟩) (by assumption) ?_
                  rotate_left
                  · (intro w hSw; (try dsimp only at hSw); go_simp; (try with_reducible rfl))
                  (try simp only [Act.put, List.getElem_toArray, List.getElem_cons_zero, List.getElem_cons_succ, List.setIfInBounds_toArray, List.set_cons_zero, List.set_cons_succ])
                  refine wpAnyH_take (i := 8) (v := ?_) rfl (by kernel_rfl) (by kernel_rfl) (by kernel_rfl) (fun _ _ _ h => h) (Or.inl ⟨by rfl, ?_⟩) (by assumption) ?_
                  rotate_left
                  · (intro w hSw; (try dsimp only at hSw); go_simp; (try with_reducible rfl))
                  (try simp only [Act.put, List.getElem_toArray, List.getElem_cons_zero, List.getElem_cons_succ, List.setIfInBounds_toArray, List.set_cons_zero, List.set_cons_succ])
                  refine wpAnyH_done (by kernel_rfl) ?_ _
                  refine NoPanic.normal ?_
                  go_wp2_with fail
                  go_roundw
                  case rel => exact ⟨i + j, r - j, some ⟨b, lo + i * 2 + j * 2, none⟩, c' - j, hs ++ [⟨⟨false, f, E⟩, a1, c1⟩], v9, rfl, by omega, by first | rfl | rw [if_neg hcn.out], by omega, by omega, fun q => by rw [show lo + (i + j) * 2 = lo + i * 2 + j * 2 by omega], fun q => HNX.out (by omega), by rw [xs_last, HHS.out, HPC.out], hO9, HZ9, B9⟩
                  case measure => show r - j < r; omega

end Go.Proofs.YtdjljnpbnhampaaDoor

namespace Go.Proofs.YtdjljnpbnhampaaDoor
open Go
set_option linter.unusedVariables false
set_option linter.unusedSimpArgs false

section
variable {P : Program} {ops : Array Oper} {Q : Exit → Act → World → Prop} {md : Region.Mode} {S : World → Prop} {D : Nat → Bool}

def wpAnyS (P : Program) (md : Region.Mode) (ops : Array Oper) (Q : Exit → Act → World → Prop) (S : World → Prop) (D : Nat → Bool) : Nat → Array Bool → Act → World → Prop
  | 0, listed, a, w => Region.ready md ops listed = [] ∧ Q .normal a w
  | fuel + 1, listed, a, w =>
    (Region.ready md ops listed = [] → Q .normal a w) ∧
    ∀ i ∈ Region.ready md ops listed, wpOp P ops Q i (fun a' w' => (D i = true → wpAny P md ops Q fuel (listed.setIfInBounds i true) a' w') ∧ (D i = false → S w' ∧ wpAnyS P md ops Q S D fuel (listed.setIfInBounds i true) a' w')) a w

theorem wpAny_of_S : ∀ (fuel : Nat) (listed : Array Bool) (a : Act) (w : World), wpAnyS P md ops Q S D fuel listed a w → wpAny P md ops Q fuel listed a w
  | 0, _, _, _, h => h
  | fuel + 1, _, _, _, h => ⟨h.1, fun i hi => wpOp_mono (fun a' w' h' => by
      cases hD : D i with
      | true => exact h'.1 hD
      | false => exact wpAny_of_S fuel _ a' w' (h'.2 hD).2) (h.2 i hi)⟩

theorem wpAnyS_first {i : Nat} {oi : Oper} {v : Value} (hi : ops[i]? = some oi) (hsel : ∀ (j : Nat) (o : Oper) cs b, ops[j]? = some o → o.op ≠ .select cs b)
    (hQ : ∀ c a w, Q (.panic c) (a.put oi.dst v) w → Q (.panic c) a w) (hDi : D i = false)
    (hD : ∀ j oj, ops[j]? = some oj → D j = true → ∃ e ∈ oj.after, Region.binds md e = true ∧ e.on = i) :
    ∀ (fuel : Nat) (listed : Array Bool) (a : Act) (w : World),
      (∀ j oj, ops[j]? = some oj → j ≠ i → listed.getD j true = false → (∀ e ∈ oj.after, Region.binds md e = true → e.on ≠ i) → oi.apart ops oj = true) →
      i ∈ Region.ready md ops listed → YieldsIf P ops S oi v a → S w →
      wpAnyS P md ops Q S D fuel (listed.setIfInBounds i true) (a.put oi.dst v) w → wpAnyS P md ops Q S D (fuel + 1) listed a w := by
  intro fuel
  induction fuel with
  | zero =>
    intro listed a w _ hr hy hS H
    refine ⟨fun h => (by rw [h] at hr; cases hr), fun j hj => ?_⟩
    by_cases hji : j = i
    · subst hji
      exact hy.wpOp hi hS ⟨fun h => (by rw [hDi] at h; cases h), fun _ => ⟨hS, H⟩⟩
    · have := ready_mono hj hji
      rw [H.1] at this
      cases this
  | succ fuel ih =>
    intro listed a w hfree hr hy hS H
    refine ⟨fun h => (by rw [h] at hr; cases hr), fun j hj => ?_⟩
    by_cases hji : j = i
    · subst hji
      exact hy.wpOp hi hS ⟨fun h => (by rw [hDi] at h; cases h), fun _ => ⟨hS, H⟩⟩
    · have h1 := H.2 j (ready_mono hj hji)
      obtain ⟨hjun, oj, hoj, hall⟩ := mem_ready.1 hj
      have hnot : ∀ e ∈ oj.after, Region.binds md e = true → e.on ≠ i := fun e he hb heq => by
        have h1 := hall e he hb
        have h0 := (mem_ready.1 hr).1
        rw [heq] at h1
        rcases Nat.lt_or_ge i listed.size with h' | h'
        · simp [h'] at h0 h1; rw [h0] at h1; cases h1
        · simp [Array.getElem?_eq_none h'] at h1
      have hDj : D j = false := by
        cases hq : D j with
        | false => rfl
        | true =>
          obtain ⟨e, he, hb, heq⟩ := hD j oj hoj hq
          exact absurd heq (hnot e he hb)
      have h1' : wpOp P ops Q j (fun a' w' => S w' ∧ wpAnyS P md ops Q S D fuel ((listed.setIfInBounds i true).setIfInBounds j true) a' w') (a.put oi.dst v) w := wpOp_mono (fun a' w' h => h.2 hDj) h1
      have h2 := wpOp_putIf hoj (hfree j oj hoj hji hjun hnot) (fun cs b => hsel i oi cs b hi) (fun cs b => hsel j oj cs b hoj) hQ hy h1'
      have hfree' : ∀ k ok, ops[k]? = some ok → k ≠ i → (listed.setIfInBounds j true).getD k true = false →
          (∀ e ∈ ok.after, Region.binds md e = true → e.on ≠ i) → oi.apart ops ok = true := fun k ok hk hki hun hno => by
        refine hfree k ok hk hki ?_ hno
        by_cases hjk : j = k
        · subst hjk; exact hjun
        · rw [getD_set_ne true hjk] at hun; exact hun
      refine wpOp_mono (fun a' w' h3 => ⟨fun h => (by rw [hDj] at h; cases h), fun _ => ⟨h3.2.1, ih (listed.setIfInBounds j true) a' w' hfree' (ready_mono hr (Ne.symm hji)) h3.1 h3.2.1 ?_⟩⟩) h2
      rw [Array.setIfInBounds_comm _ _ hji]
      exact h3.2.2

theorem wpAnyS_first0 {i : Nat} {oi : Oper} {v : Value} (hi : ops[i]? = some oi) (hsel : ∀ (j : Nat) (o : Oper) cs b, ops[j]? = some o → o.op ≠ .select cs b)
    (hQ : ∀ c a w, Q (.panic c) (a.put oi.dst v) w → Q (.panic c) a w) (hDi : D i = false) :
    ∀ (fuel : Nat) (listed : Array Bool) (a : Act) (w : World),
      (∀ j oj, ops[j]? = some oj → j ≠ i → listed.getD j true = false → (∀ e ∈ oj.after, Region.binds md e = true → e.on ≠ i) → oi.apart ops oj = true) →
      i ∈ Region.ready md ops listed → Yields P ops oi v a → S w →
      wpAnyS P md ops Q S D fuel (listed.setIfInBounds i true) (a.put oi.dst v) w → wpAnyS P md ops Q S D (fuel + 1) listed a w := by
  intro fuel
  induction fuel with
  | zero =>
    intro listed a w _ hr hy hS H
    refine ⟨fun h => (by rw [h] at hr; cases hr), fun j hj => ?_⟩
    by_cases hji : j = i
    · subst hji
      exact (hy.yieldsIf (S := S)).wpOp hi hS ⟨fun h => (by rw [hDi] at h; cases h), fun _ => ⟨hS, H⟩⟩
    · have := ready_mono hj hji
      rw [H.1] at this
      cases this
  | succ fuel ih =>
    intro listed a w hfree hr hy hS H
    refine ⟨fun h => (by rw [h] at hr; cases hr), fun j hj => ?_⟩
    by_cases hji : j = i
    · subst hji
      exact (hy.yieldsIf (S := S)).wpOp hi hS ⟨fun h => (by rw [hDi] at h; cases h), fun _ => ⟨hS, H⟩⟩
    · have h1 := H.2 j (ready_mono hj hji)
      obtain ⟨hjun, oj, hoj, hall⟩ := mem_ready.1 hj
      have hnot : ∀ e ∈ oj.after, Region.binds md e = true → e.on ≠ i := fun e he hb heq => by
        have h1 := hall e he hb
        have h0 := (mem_ready.1 hr).1
        rw [heq] at h1
        rcases Nat.lt_or_ge i listed.size with h' | h'
        · simp [h'] at h0 h1; rw [h0] at h1; cases h1
        · simp [Array.getElem?_eq_none h'] at h1
      have h2 := wpOp_put hoj (hfree j oj hoj hji hjun hnot) (fun cs b => hsel i oi cs b hi) (fun cs b => hsel j oj cs b hoj) hQ hy h1
      have hfree' : ∀ k ok, ops[k]? = some ok → k ≠ i → (listed.setIfInBounds j true).getD k true = false →
          (∀ e ∈ ok.after, Region.binds md e = true → e.on ≠ i) → oi.apart ops ok = true := fun k ok hk hki hun hno => by
        refine hfree k ok hk hki ?_ hno
        by_cases hjk : j = k
        · subst hjk; exact hjun
        · rw [getD_set_ne true hjk] at hun; exact hun
      refine wpOp_mono (fun a' w' h3 => ⟨fun hDj => ?_, fun hDj => ?_⟩) h2
      · refine wpAny_first hi hsel hQ fuel (listed.setIfInBounds j true) a' w' hfree' (ready_mono hr (Ne.symm hji)) h3.1 ?_
        rw [Array.setIfInBounds_comm _ _ hji]
        exact h3.2.1 hDj
      · refine ⟨(h3.2.2 hDj).1, ih (listed.setIfInBounds j true) a' w' hfree' (ready_mono hr (Ne.symm hji)) h3.1 (h3.2.2 hDj).1 ?_⟩
        rw [Array.setIfInBounds_comm _ _ hji]
        exact (h3.2.2 hDj).2

/-- Every operation of D waits for number i. -/
def waitsD (md : Region.Mode) (ops : Array Oper) (D : Nat → Bool) (i : Nat) : Bool :=
  (List.range ops.size).all fun j => !(D j) || (match ops[j]? with | some oj => oj.after.toList.any (fun e => Region.binds md e && (e.on == i)) | none => true)

theorem waitsD_spec {i : Nat} (h : waitsD md ops D i = true) : ∀ j oj, ops[j]? = some oj → D j = true → ∃ e ∈ oj.after, Region.binds md e = true ∧ e.on = i := fun j oj hoj hD => by
  have hj : j < ops.size := (Array.getElem?_eq_some_iff.1 hoj).1
  have h1 := List.all_eq_true.1 h j (List.mem_range.2 hj)
  rw [hD, hoj] at h1
  simp only [Bool.not_true, Bool.false_or, List.any_eq_true, Bool.and_eq_true, beq_iff_eq] at h1
  obtain ⟨e, he, hb, heq⟩ := h1
  exact ⟨e, by simpa using he, hb, heq⟩

theorem wpAnyS_take {i : Nat} {oi : Oper} {v : Value} {fuel : Nat} {listed : Array Bool} {a : Act} {w : World} (hi : ops[i]? = some oi)
    (hs : Region.noSelect ops = true) (hf : Region.free md ops listed i = true) (hr : (Region.ready md ops listed).contains i = true) (hDi : D i = false) (hD : waitsD md ops D i = true)
    (hQ : ∀ c a w, Q (.panic c) (a.put oi.dst v) w → Q (.panic c) a w) (hy : YieldsIf P ops S oi v a) (hS : S w)
    (h : wpAnyS P md ops Q S D fuel (listed.setIfInBounds i true) (a.put oi.dst v) w) : wpAnyS P md ops Q S D (fuel + 1) listed a w :=
  wpAnyS_first hi (Region.noSelect_spec hs) hQ hDi (waitsD_spec hD) fuel listed a w (Region.free_spec hi hf) (by simpa using hr) hy hS h

theorem wpAnyS_take0 {i : Nat} {oi : Oper} {v : Value} {fuel : Nat} {listed : Array Bool} {a : Act} {w : World} (hi : ops[i]? = some oi)
    (hs : Region.noSelect ops = true) (hf : Region.free md ops listed i = true) (hr : (Region.ready md ops listed).contains i = true) (hDi : D i = false)
    (hQ : ∀ c a w, Q (.panic c) (a.put oi.dst v) w → Q (.panic c) a w) (hw : Region.wanted oi (yielded ops a.tmps) = true) (hy : ∀ w, (execOp a.eval oi).run P w = .ok (.value v) w) (hS : S w)
    (h : wpAnyS P md ops Q S D fuel (listed.setIfInBounds i true) (a.put oi.dst v) w) : wpAnyS P md ops Q S D (fuel + 1) listed a w :=
  wpAnyS_first0 hi (Region.noSelect_spec hs) hQ hDi fuel listed a w (Region.free_spec hi hf) (by simpa using hr) (Or.inl ⟨hw, hy⟩) hS h

/-- The only one that may come up. -/
theorem wpAnyS_one {r : Nat} {o : Oper} {fuel : Nat} {listed : Array Bool} {a : Act} {w : World} (hr : Region.ready md ops listed = [r]) (ho : ops[r]? = some o) (hw : Region.wanted o (yielded ops a.tmps) = true) (hD : D r = false)
    (h : ∀ K : Act → World → Prop, (∀ a' w', S w' → (S w' → wpAnyS P md ops Q S D fuel (listed.setIfInBounds r true) a' w') → K a' w') → o.wp P a w K Q) : wpAnyS P md ops Q S D (fuel + 1) listed a w := by
  refine ⟨fun h0 => (by rw [hr] at h0; cases h0), fun i hi => ?_⟩
  rw [hr] at hi
  obtain rfl := List.mem_singleton.1 hi
  unfold wpOp
  simp only [ho, hw, if_true]
  exact Or.inl (h _ fun a' w' h1 h2 => ⟨fun q => (by rw [hD] at q; cases q), fun _ => ⟨h1, h2 h1⟩⟩)

theorem wpAnyS_last {r : Nat} {o : Oper} {fuel : Nat} {listed : Array Bool} {a : Act} {w : World} (hr : Region.ready md ops listed = [r]) (ho : ops[r]? = some o) (hw : Region.wanted o (yielded ops a.tmps) = true) (hD : D r = true)
    (h : ∀ K : Act → World → Prop, (∀ a' w', wpAny P md ops Q fuel (listed.setIfInBounds r true) a' w' → K a' w') → o.wp P a w K Q) : wpAnyS P md ops Q S D (fuel + 1) listed a w := by
  refine ⟨fun h0 => (by rw [hr] at h0; cases h0), fun i hi => ?_⟩
  rw [hr] at hi
  obtain rfl := List.mem_singleton.1 hi
  unfold wpOp
  simp only [ho, hw, if_true]
  exact Or.inl (h _ fun a' w' h1 => ⟨fun _ => h1, fun q => (by rw [hD] at q; cases q)⟩)

theorem wpAny_one {r : Nat} {o : Oper} {fuel : Nat} {listed : Array Bool} {a : Act} {w : World} (hr : Region.ready md ops listed = [r]) (ho : ops[r]? = some o) (hw : Region.wanted o (yielded ops a.tmps) = true)
    (h : ∀ K : Act → World → Prop, (∀ a' w', wpAny P md ops Q fuel (listed.setIfInBounds r true) a' w' → K a' w') → o.wp P a w K Q) : wpAny P md ops Q (fuel + 1) listed a w := by
  refine ⟨fun h0 => (by rw [hr] at h0; cases h0), fun i hi => ?_⟩
  rw [hr] at hi
  obtain rfl := List.mem_singleton.1 hi
  unfold wpOp
  simp only [ho, hw, if_true]
  exact Or.inl (h _ fun a' w' h1 => h1)

theorem wp_region_S {id : Nat} {a : Act} {w : World} (S : World → Prop) (D : Nat → Bool) (hm : P.follows .mixedOrders = true) (h0 : S w.drew)
    (h : S w.drew → wpAnyS P .any ops Q S D ops.size (Array.replicate ops.size false) a w.drew) : (Code.region id ops true).wp P Q a w :=
  wp_region_any hm (wpAny_of_S _ _ _ _ (h h0))
end

end Go.Proofs.YtdjljnpbnhampaaDoor

namespace Go.Proofs.YtdjljnpbnhampaaDoor
open Go
set_option linter.unusedVariables false
set_option linter.unusedSimpArgs false

section
variable {P : Program} {ops : Array Oper} {Q : Exit → Act → World → Prop} {md : Region.Mode} {S T : World → Prop} {D : Nat → Bool}

def wpAnyT (P : Program) (md : Region.Mode) (ops : Array Oper) (Q : Exit → Act → World → Prop) (S T : World → Prop) (D : Nat → Bool) : Nat → Array Bool → Act → World → Prop
  | 0, listed, a, w => Region.ready md ops listed = [] ∧ Q .normal a w
  | fuel + 1, listed, a, w =>
    (Region.ready md ops listed = [] → Q .normal a w) ∧
    ∀ i ∈ Region.ready md ops listed, wpOp P ops Q i (fun a' w' => (D i = true → T w' ∧ wpAnyH P md ops Q T fuel (listed.setIfInBounds i true) a' w') ∧ (D i = false → (S w' ∧ T w') ∧ wpAnyT P md ops Q S T D fuel (listed.setIfInBounds i true) a' w')) a w

theorem wpAny_of_T : ∀ (fuel : Nat) (listed : Array Bool) (a : Act) (w : World), wpAnyT P md ops Q S T D fuel listed a w → wpAny P md ops Q fuel listed a w
  | 0, _, _, _, h => h
  | fuel + 1, _, _, _, h => ⟨h.1, fun i hi => wpOp_mono (fun a' w' h' => by
      cases hD : D i with
      | true => exact wpAny_of_held fuel _ a' w' (h'.1 hD).2
      | false => exact wpAny_of_T fuel _ a' w' (h'.2 hD).2) (h.2 i hi)⟩

theorem wpAnyT_first {i : Nat} {oi : Oper} {v : Value} (hi : ops[i]? = some oi) (hsel : ∀ (j : Nat) (o : Oper) cs b, ops[j]? = some o → o.op ≠ .select cs b)
    (hQ : ∀ c a w, Q (.panic c) (a.put oi.dst v) w → Q (.panic c) a w) (hDi : D i = false)
    (hD : ∀ j oj, ops[j]? = some oj → D j = true → ∃ e ∈ oj.after, Region.binds md e = true ∧ e.on = i) :
    ∀ (fuel : Nat) (listed : Array Bool) (a : Act) (w : World),
      (∀ j oj, ops[j]? = some oj → j ≠ i → listed.getD j true = false → (∀ e ∈ oj.after, Region.binds md e = true → e.on ≠ i) → oi.apart ops oj = true) →
      i ∈ Region.ready md ops listed → YieldsIf P ops S oi v a → S w ∧ T w →
      wpAnyT P md ops Q S T D fuel (listed.setIfInBounds i true) (a.put oi.dst v) w → wpAnyT P md ops Q S T D (fuel + 1) listed a w := by
  intro fuel
  induction fuel with
  | zero =>
    intro listed a w _ hr hy hS H
    refine ⟨fun h => (by rw [h] at hr; cases hr), fun j hj => ?_⟩
    by_cases hji : j = i
    · subst hji
      exact hy.wpOp hi hS.1 ⟨fun h => (by rw [hDi] at h; cases h), fun _ => ⟨hS, H⟩⟩
    · have := ready_mono hj hji
      rw [H.1] at this
      cases this
  | succ fuel ih =>
    intro listed a w hfree hr hy hS H
    refine ⟨fun h => (by rw [h] at hr; cases hr), fun j hj => ?_⟩
    by_cases hji : j = i
    · subst hji
      exact hy.wpOp hi hS.1 ⟨fun h => (by rw [hDi] at h; cases h), fun _ => ⟨hS, H⟩⟩
    · have h1 := H.2 j (ready_mono hj hji)
      obtain ⟨hjun, oj, hoj, hall⟩ := mem_ready.1 hj
      have hnot : ∀ e ∈ oj.after, Region.binds md e = true → e.on ≠ i := fun e he hb heq => by
        have h1 := hall e he hb
        have h0 := (mem_ready.1 hr).1
        rw [heq] at h1
        rcases Nat.lt_or_ge i listed.size with h' | h'
        · simp [h'] at h0 h1; rw [h0] at h1; cases h1
        · simp [Array.getElem?_eq_none h'] at h1
      have hDj : D j = false := by
        cases hq : D j with
        | false => rfl
        | true =>
          obtain ⟨e, he, hb, heq⟩ := hD j oj hoj hq
          exact absurd heq (hnot e he hb)
      have h1' : wpOp P ops Q j (fun a' w' => (S w' ∧ T w') ∧ wpAnyT P md ops Q S T D fuel ((listed.setIfInBounds i true).setIfInBounds j true) a' w') (a.put oi.dst v) w := wpOp_mono (fun a' w' h => h.2 hDj) h1
      have h2 := wpOp_putIf hoj (hfree j oj hoj hji hjun hnot) (fun cs b => hsel i oi cs b hi) (fun cs b => hsel j oj cs b hoj) hQ hy h1'
      have hfree' : ∀ k ok, ops[k]? = some ok → k ≠ i → (listed.setIfInBounds j true).getD k true = false →
          (∀ e ∈ ok.after, Region.binds md e = true → e.on ≠ i) → oi.apart ops ok = true := fun k ok hk hki hun hno => by
        refine hfree k ok hk hki ?_ hno
        by_cases hjk : j = k
        · subst hjk; exact hjun
        · rw [getD_set_ne true hjk] at hun; exact hun
      refine wpOp_mono (fun a' w' h3 => ⟨fun h => (by rw [hDj] at h; cases h), fun _ => ⟨h3.2.1, ih (listed.setIfInBounds j true) a' w' hfree' (ready_mono hr (Ne.symm hji)) h3.1 h3.2.1 ?_⟩⟩) h2
      rw [Array.setIfInBounds_comm _ _ hji]
      exact h3.2.2

theorem wpAnyT_firstT {i : Nat} {oi : Oper} {v : Value} (hi : ops[i]? = some oi) (hsel : ∀ (j : Nat) (o : Oper) cs b, ops[j]? = some o → o.op ≠ .select cs b)
    (hQ : ∀ c a w, Q (.panic c) (a.put oi.dst v) w → Q (.panic c) a w) (hDi : D i = false) :
    ∀ (fuel : Nat) (listed : Array Bool) (a : Act) (w : World),
      (∀ j oj, ops[j]? = some oj → j ≠ i → listed.getD j true = false → (∀ e ∈ oj.after, Region.binds md e = true → e.on ≠ i) → oi.apart ops oj = true) →
      i ∈ Region.ready md ops listed → YieldsIf P ops T oi v a → S w ∧ T w →
      wpAnyT P md ops Q S T D fuel (listed.setIfInBounds i true) (a.put oi.dst v) w → wpAnyT P md ops Q S T D (fuel + 1) listed a w := by
  intro fuel
  induction fuel with
  | zero =>
    intro listed a w _ hr hy hS H
    refine ⟨fun h => (by rw [h] at hr; cases hr), fun j hj => ?_⟩
    by_cases hji : j = i
    · subst hji
      exact hy.wpOp hi hS.2 ⟨fun h => (by rw [hDi] at h; cases h), fun _ => ⟨hS, H⟩⟩
    · have := ready_mono hj hji
      rw [H.1] at this
      cases this
  | succ fuel ih =>
    intro listed a w hfree hr hy hS H
    refine ⟨fun h => (by rw [h] at hr; cases hr), fun j hj => ?_⟩
    by_cases hji : j = i
    · subst hji
      exact hy.wpOp hi hS.2 ⟨fun h => (by rw [hDi] at h; cases h), fun _ => ⟨hS, H⟩⟩
    · have h1 := H.2 j (ready_mono hj hji)
      obtain ⟨hjun, oj, hoj, hall⟩ := mem_ready.1 hj
      have hnot : ∀ e ∈ oj.after, Region.binds md e = true → e.on ≠ i := fun e he hb heq => by
        have h1 := hall e he hb
        have h0 := (mem_ready.1 hr).1
        rw [heq] at h1
        rcases Nat.lt_or_ge i listed.size with h' | h'
        · simp [h'] at h0 h1; rw [h0] at h1; cases h1
        · simp [Array.getElem?_eq_none h'] at h1
      have h2 := wpOp_putIf hoj (hfree j oj hoj hji hjun hnot) (fun cs b => hsel i oi cs b hi) (fun cs b => hsel j oj cs b hoj) hQ hy h1
      have hfree' : ∀ k ok, ops[k]? = some ok → k ≠ i → (listed.setIfInBounds j true).getD k true = false →
          (∀ e ∈ ok.after, Region.binds md e = true → e.on ≠ i) → oi.apart ops ok = true := fun k ok hk hki hun hno => by
        refine hfree k ok hk hki ?_ hno
        by_cases hjk : j = k
        · subst hjk; exact hjun
        · rw [getD_set_ne true hjk] at hun; exact hun
      refine wpOp_mono (fun a' w' h3 => ⟨fun hDj => ?_, fun hDj => ?_⟩) h2
      · refine ⟨(h3.2.1 hDj).1, wpAnyH_first hi hsel hQ fuel (listed.setIfInBounds j true) a' w' hfree' (ready_mono hr (Ne.symm hji)) h3.1 (h3.2.1 hDj).1 ?_⟩
        rw [Array.setIfInBounds_comm _ _ hji]
        exact (h3.2.1 hDj).2
      · refine ⟨(h3.2.2 hDj).1, ih (listed.setIfInBounds j true) a' w' hfree' (ready_mono hr (Ne.symm hji)) h3.1 (h3.2.2 hDj).1 ?_⟩
        rw [Array.setIfInBounds_comm _ _ hji]
        exact (h3.2.2 hDj).2

theorem wpAnyT_take {i : Nat} {oi : Oper} {v : Value} {fuel : Nat} {listed : Array Bool} {a : Act} {w : World} (hi : ops[i]? = some oi)
    (hs : Region.noSelect ops = true) (hf : Region.free md ops listed i = true) (hr : (Region.ready md ops listed).contains i = true) (hDi : D i = false) (hD : waitsD md ops D i = true)
    (hQ : ∀ c a w, Q (.panic c) (a.put oi.dst v) w → Q (.panic c) a w) (hy : YieldsIf P ops S oi v a) (hS : S w ∧ T w)
    (h : wpAnyT P md ops Q S T D fuel (listed.setIfInBounds i true) (a.put oi.dst v) w) : wpAnyT P md ops Q S T D (fuel + 1) listed a w :=
  wpAnyT_first hi (Region.noSelect_spec hs) hQ hDi (waitsD_spec hD) fuel listed a w (Region.free_spec hi hf) (by simpa using hr) hy hS h

theorem wpAnyT_takeT {i : Nat} {oi : Oper} {v : Value} {fuel : Nat} {listed : Array Bool} {a : Act} {w : World} (hi : ops[i]? = some oi)
    (hs : Region.noSelect ops = true) (hf : Region.free md ops listed i = true) (hr : (Region.ready md ops listed).contains i = true) (hDi : D i = false)
    (hQ : ∀ c a w, Q (.panic c) (a.put oi.dst v) w → Q (.panic c) a w) (hy : YieldsIf P ops T oi v a) (hS : S w ∧ T w)
    (h : wpAnyT P md ops Q S T D fuel (listed.setIfInBounds i true) (a.put oi.dst v) w) : wpAnyT P md ops Q S T D (fuel + 1) listed a w :=
  wpAnyT_firstT hi (Region.noSelect_spec hs) hQ hDi fuel listed a w (Region.free_spec hi hf) (by simpa using hr) hy hS h

/-- The only one that may come up. -/
theorem wpAnyT_one {r : Nat} {o : Oper} {fuel : Nat} {listed : Array Bool} {a : Act} {w : World} (hr : Region.ready md ops listed = [r]) (ho : ops[r]? = some o) (hw : Region.wanted o (yielded ops a.tmps) = true) (hD : D r = false)
    (h : ∀ K : Act → World → Prop, (∀ a' w', S w' ∧ T w' → (S w' ∧ T w' → wpAnyT P md ops Q S T D fuel (listed.setIfInBounds r true) a' w') → K a' w') → o.wp P a w K Q) : wpAnyT P md ops Q S T D (fuel + 1) listed a w := by
  refine ⟨fun h0 => (by rw [hr] at h0; cases h0), fun i hi => ?_⟩
  rw [hr] at hi
  obtain rfl := List.mem_singleton.1 hi
  unfold wpOp
  simp only [ho, hw, if_true]
  exact Or.inl (h _ fun a' w' h1 h2 => ⟨fun q => (by rw [hD] at q; cases q), fun _ => ⟨h1, h2 h1⟩⟩)

theorem wpAnyT_last {r : Nat} {o : Oper} {fuel : Nat} {listed : Array Bool} {a : Act} {w : World} (hr : Region.ready md ops listed = [r]) (ho : ops[r]? = some o) (hw : Region.wanted o (yielded ops a.tmps) = true) (hD : D r = true)
    (h : ∀ K : Act → World → Prop, (∀ a' w', T w' → (T w' → wpAnyH P md ops Q T fuel (listed.setIfInBounds r true) a' w') → K a' w') → o.wp P a w K Q) : wpAnyT P md ops Q S T D (fuel + 1) listed a w := by
  refine ⟨fun h0 => (by rw [hr] at h0; cases h0), fun i hi => ?_⟩
  rw [hr] at hi
  obtain rfl := List.mem_singleton.1 hi
  unfold wpOp
  simp only [ho, hw, if_true]
  exact Or.inl (h _ fun a' w' h1 h2 => ⟨fun _ => ⟨h1, h2 h1⟩, fun q => (by rw [hD] at q; cases q)⟩)

theorem wp_region_T {id : Nat} {a : Act} {w : World} (S T : World → Prop) (D : Nat → Bool) (hm : P.follows .mixedOrders = true) (h0 : S w.drew ∧ T w.drew)
    (h : S w.drew ∧ T w.drew → wpAnyT P .any ops Q S T D ops.size (Array.replicate ops.size false) a w.drew) : (Code.region id ops true).wp P Q a w :=
  wp_region_any hm (wpAny_of_T _ _ _ _ (h h0))
end

end Go.Proofs.YtdjljnpbnhampaaDoor

namespace Go.Proofs.YtdjljnpbnhampaaDoor
open Go.RowKit
attribute [local go_sem ↓] Go.wp_at_zero Go.wp_at_succ
set_option linter.unusedSimpArgs false
set_option linter.unusedVariables false
set_option maxRecDepth 100000

theorem pk_first {ps : List Pr} {k : Nat} (h : ∀ p ∈ ps.take k, okPr p) : ∀ x ∈ mpkL (ps.take k), okPk x := fold_pk _ [] h (by simp)

theorem pk_ne : ∀ (ps : List Pr) (l : List Mv), l ≠ [] → ps.foldl mpkS l ≠ []
  | [], l, h => h
  | p :: ps, l, h => pk_ne ps _ (by
    rcases List.eq_nil_or_concat l with rfl | ⟨l0, b, rfl⟩
    · exact absurd rfl h
    · rw [List.concat_eq_append, packS_snoc]
      split <;> simp)

theorem packL_ne {ps : List Pr} {k : Nat} (h0 : 0 < k) (hk : k ≤ ps.length) : mpkL (ps.take k) ≠ [] := by
  obtain ⟨p, l, rfl⟩ : ∃ p l, ps = p :: l := by
    cases ps with
    | nil => simp at hk; omega
    | cons p l => exact ⟨p, l, rfl⟩
  obtain ⟨k, rfl⟩ : ∃ j, k = j + 1 := ⟨k - 1, by omega⟩
  rw [List.take_succ_cons]
  exact pk_ne (l.take k) _ (by rw [packS_nil]; simp)

theorem packL_at0 (ps : List Pr) : mpkL (ps.take 0) = [] := by rw [List.take_zero]; rfl

/-- What is answered. -/
def PkRes (w' : World) (base : Nat) (v : Value) (ps : List Pr) (e0 : Int) : Prop := (e0 = 0 ∧ PkSt w' base v (mpkL ps)) ∨ (e0 ≠ 0 ∧ v = .slice none 0 0)

/-- The call's two results. -/
def PkEnd (w w' : World) (ps : List Pr) (e0 pl : Int) (e : Ending) : Prop := ∃ v er, e = .returned (.tuple #[v, er]) ∧ ErrAs w' er e0 pl ∧ PkRes w' w.heap.size v ps e0 ∧ Below w.heap.size w w'

set_option maxHeartbeats 12800000 in
theorem mvPack_some (a : Option Addr) (c : Nat) (ps : List Pr) (m : Nat) (hm : m ≤ ps.length) (hok : ∀ (k : Nat) (hk : k < ps.length), k < m → badP ps k ps[k] = 0) (e0 pl : Int)
    (hend : (m = ps.length ∧ e0 = 0 ∧ pl = -1) ∨ (∃ hk : m < ps.length, badP ps m ps[m] = e0 ∧ e0 ≠ 0 ∧ pl = m)) (w : World) (h : PrIn w a ps) (hl : ps.length ≤ 90000) :
    Calls Tryd.prog 17 #[.slice a ps.length c] w fun e w' => PkEnd w w' ps e0 pl e := by
  obtain ⟨base, hbase⟩ : ∃ base, w.heap.size = base := ⟨_, rfl⟩
  have hb0 : Below base w w := Below.refl _ _
  have hP0 := PkSt.nil w base
  have HOK := Lib.hid hok
  have HEND := Lib.hid hend
  clear hok hend
  unfold PkEnd
  rw [hbase]
  go_enter Tryd.func17, Tryd.ntmps17
  go_wp2_with fail
  go_loopw [4, 11] (fun v i wr => ∃ (k : Nat) (v2 : Value), k ≤ m ∧ i = .int .i64 k ∧ v2 = v ∧ PkSt wr base v2 (mpkL (ps.take k)) ∧ Below base w wr) (fun _ i _ => ps.length - (intOf i).toNat)
  case atStart => exact ⟨0, _, by omega, rfl, rfl, by rw [packL_at0]; exact hP0, hb0⟩
  case round =>
    obtain ⟨k, v, hk, rfl, rfl, HP, Bk⟩ := hrel
    clear hP0 hb0
    by_cases hlt : k < ps.length
    · have hI := h.below (by rw [hbase]; exact Bk)
      obtain ⟨b, lo, rfl, hbl, hat⟩ := hI.at hlt
      have q1 : (k : Int) < (ps.length : Int) := by omega
      have q2 : decide ((k : Int) < (ps.length : Int)) = true := decide_eq_true q1
      have q3 : (0 : Int) ≤ (k : Int) := by omega
      have q4 : IntKind.i64.wrap ((k : Int) + 1) = (k : Int) + 1 := by rw [IntKind.wrap_i64] <;> omega
      have HK := hat k hlt
      have HPV : Hid (∀ j, k = j + 1 → wr.cell? ⟨b, lo + j * 2, none⟩ = some (.int .i64 (vidN ps j))) := fun j e => by
        have hj : j < ps.length := by omega
        have q := hat j hj 0 (.int .i64 ps[j].vid) rfl
        rw [Nat.add_zero] at q
        rw [vidN_get hj]
        exact q
      have HBD : Hid (badP ps k ps[k] = 0 ∨ k = m) := by
        show _ ∨ _
        by_cases e : k = m
        · exact Or.inr e
        · exact Or.inl (HOK.out k hlt (by omega))
      have HEN : Hid (k = m → badP ps k ps[k] = e0 ∧ e0 ≠ 0 ∧ pl = k) := fun e => by
        subst e
        rcases HEND.out with ⟨r1, _⟩ | ⟨_, r2, r3, r4⟩
        · omega
        · exact ⟨r2, r3, r4⟩
      have HKM : Hid (badP ps k ps[k] = 0 → k + 1 ≤ m) := fun e => by
        by_cases e1 : k = m
        · have := HEN.out e1
          omega
        · omega
      have HTK : Hid (∀ x ∈ mpkL (ps.take k), okPk x) := pk_first (take_okPr ps k (fun j hj hjk => HOK.out j hj (by omega)))
      have HSN := Lib.hid (packL_snoc ps k hlt)
      have HNE : Hid (0 < k → mpkL (ps.take k) ≠ []) := fun q => packL_ne q (by omega)
      have HZ : Hid (k = 0 → mpkL (ps.take k) = []) := fun q => by rw [q]; exact packL_at0 ps
      have HLN : Hid ((mpkL (ps.take k)).length ≤ 90000) := by
        show _ ≤ _
        have := mpkL_len (ps.take k) []
        rw [List.length_take] at this
        simp only [List.length_nil, Nat.zero_add] at this
        unfold mpkL
        omega
      have HB0 : Hid (badP ps k ps[k] = if 0 < k ∧ ps[k].vid ≤ vidN ps (k - 1) then 10 else if okPrB ps[k] then 0 else 1) := by
        show _ = _
        unfold badP
        rfl
      have hsw := Bk.size
      rw [hbase] at hsw
      generalize badP ps k ps[k] = bp at *
      generalize ps[k] = p at *
      generalize mpkL (ps.take k) = L at *
      clear hat hI HOK HEND
      have HA4 := Blk.new wr 84 (prC zPr)
      have b4 : Below wr.heap.size wr (wr.alloc (.cells (prC zPr) 84)) := (Below.refl _ _).alloc (Nat.le_refl _) _
      go_upto_region 5 with (first
        | (refine load_cells (B := b) (k := lo + k * 2) 84 (prC p) (by rfl) rfl rfl HK (by kernel_rfl) (by kernel_rfl) ?_)
        | (refine alloc_blk 84 (prC zPr) (by rfl) rfl Tryd.prZero ?_)
        | (refine store_blk (k := 0) 84 (.agg (prC p)) (prC p) (by rfl) rfl rfl rfl HA4 (by kernel_rfl) (show (2 : Nat) ≤ 2 from Nat.le_refl 2) (by rfl) (st_whole _ _ rfl) ?_; intro w5 HA5 b5 g5))
      have b05 := b4.trans b5
      have HP5 := HP.kept b05
      have B5 := Bk.trans (b05.mono hsw)
      have hs5 : wr.heap.size < w5.heap.size := HA5.lt
      have HPV5 : Hid (∀ j, k = j + 1 → w5.cell? ⟨b, lo + j * 2, none⟩ = some (.int .i64 (vidN ps j))) := fun j e => by
        have q := HPV.out j e
        have hbw : b < wr.heap.size := hbl
        rw [b05.cell (p := ⟨b, lo + j * 2, none⟩) hbw]
        exact q
      have hbw5 : b < w5.heap.size := Nat.lt_of_lt_of_le hbl b05.size
      have hb5 : base ≤ w5.heap.size := Nat.le_trans hsw b05.size
      clear HA4 b4 b5 g5 HK HP Bk HPV b05 hbl hsw
      generalize wr.heap.size = G at *
      have c0 := HA5.cv 0 (.int .i64 p.vid) rfl
      have c1 := HA5.cv 1 (.int .i64 p.ev) rfl
      go_upto_region 6 with (first
        | (refine sliceL_iv p.ev rfl rfl rfl ?_; intro w6 HE6 b6 s6; have HY6 := Blk.new w6 92 (mvC zMvH); have d6 : Below w6.heap.size w6 (w6.alloc (.cells (mvC zMvH) 92)) := (Below.refl _ _).alloc (Nat.le_refl _) _)
        | (refine build_blk (t := 92) (mvC ⟨⟨false, p.vid, [p.ev]⟩, some ⟨w5.heap.size, 0, none⟩, 1⟩) (by rfl) rfl (by kernel_rfl) ?_)
        | (refine alloc_blk 92 (mvC zMvH) (by rfl) rfl Tryd.mhZero ?_)
        | (refine store_blk (k := 0) 92 (.agg (mvC ⟨⟨false, p.vid, [p.ev]⟩, some ⟨w5.heap.size, 0, none⟩, 1⟩)) (mvC ⟨⟨false, p.vid, [p.ev]⟩, some ⟨w5.heap.size, 0, none⟩, 1⟩) (by rfl) rfl rfl rfl HY6 (by kernel_rfl) (show (3 : Nat) ≤ 3 from Nat.le_refl 3) (by rfl) (st_whole _ _ rfl) ?_; intro w7 HY7 b7 g7))
      have b67 := d6.trans b7
      have b57 := b6.trans (b67.mono b6.size)
      have HA7 := HA5.kept b57
      have HP7 := HP5.kept b57
      have B7 := B5.trans (b57.mono hb5)
      have HE7 := HE6.kept b67
      have HPV7 : Hid (∀ j, k = j + 1 → w7.cell? ⟨b, lo + j * 2, none⟩ = some (.int .i64 (vidN ps j))) := fun j e => by
        rw [b57.cell (p := ⟨b, lo + j * 2, none⟩) hbw5]
        exact HPV5.out j e
      have hb7 : base ≤ w7.heap.size := Nat.le_trans hb5 b57.size
      have hbw7 : b < w7.heap.size := Nat.lt_of_lt_of_le hbw5 b57.size
      have hGE : G < w5.heap.size := hs5
      have hEY : w5.heap.size < w6.heap.size := s6
      have hPall : Hid (∀ hs : List MvH, (∀ x ∈ hs, OwnIv w5 base (evV x) x.x.ev) → True) := fun _ _ => trivial
      have HEb : Hid (PkSt w5 base v L) := HP5
      have b57' := b57
      clear HE6 HY6 d6 b6 b7 g7 b67 B5 HPV5 c0 c1 HA5 HP5 hPall
      generalize w6.heap.size = Y at *
      have HIV := iv_one HE7
      have HR0 : Hid (∀ W, Below w7.heap.size w7 W → Calls Tryd.prog 22 #[.agg (mvC ⟨⟨false, p.vid, [p.ev]⟩, some ⟨w5.heap.size, 0, none⟩, 1⟩)] W fun e w' => e = .returned (.bool (okPrB p)) ∧ Below W.heap.size W w') := fun W hb => by
        have q := mvRight_any ⟨false, p.vid, [p.ev]⟩ (some ⟨w5.heap.size, 0, none⟩) 1 W ((ownIv_cap rfl HIV).1.below hb) (by unfold maxLen; simp)
        rw [okMv_one] at q
        exact q
      by_cases hk0 : k = 0
      · have hL0 := HZ.out hk0
        obtain ⟨rfl, hv⟩ : L = [] ∧ v = .slice none 0 0 := by
          refine ⟨hL0, ?_⟩
          rcases HEb.out with q | ⟨hs, y, D, q, _⟩
          · exact q.2
          · rw [hL0] at q; simp at q
        subst hv
        have hbq : bp = if okPrB p then 0 else 1 := by rw [HB0.out, if_neg (by omega)]
        have dk : decide ((0 : Int) < (k : Int)) = false := decide_eq_false (by omega)
        have dkN : decide (0 < k) = false := decide_eq_false (by omega)
        clear HB0 HPV7 HNE HTK
        replace hk0 := Lib.hid hk0
        have HY7d := HY7.drew
        refine wp_region_noPanic ?_
        refine wp_region_held_drew (S := (fun _ => True)) (by kernel_rfl) ?_ (fun hHeld => ?_)
        · exact trivial
        refine wpAnyH_take (i := 0) (v := ?_) rfl (by kernel_rfl) (by kernel_rfl) (by kernel_rfl) (fun _ _ _ h => h) (Or.inl ⟨by rfl, ?_⟩) (by assumption) ?_
        rotate_left
        · (intro w hSw; (try dsimp only at hSw); go_simp; (try with_reducible rfl))
        (try simp only [Act.put, List.getElem_toArray, List.getElem_cons_zero, List.getElem_cons_succ, List.setIfInBounds_toArray, List.set_cons_zero, List.set_cons_succ])
        refine wpAnyH_take (i := 1) (v := ?_) rfl (by kernel_rfl) (by kernel_rfl) (by kernel_rfl) (fun _ _ _ h => h) (Or.inl ⟨by rfl, ?_⟩) (by assumption) ?_
        rotate_left
        · (intro w hSw; (try dsimp only at hSw); go_simp; (try with_reducible rfl))
        (try simp only [Act.put, List.getElem_toArray, List.getElem_cons_zero, List.getElem_cons_succ, List.setIfInBounds_toArray, List.set_cons_zero, List.set_cons_succ])
        refine wpAnyH_take (i := 2) (v := ?_) rfl (by kernel_rfl) (by kernel_rfl) (by kernel_rfl) (fun _ _ _ h => h) (Or.inl ⟨by rfl, ?_⟩) (by assumption) ?_
        rotate_left
        · (intro w hSw; (try dsimp only at hSw); go_simp; (try with_reducible rfl))
        (try simp only [Act.put, List.getElem_toArray, List.getElem_cons_zero, List.getElem_cons_succ, List.setIfInBounds_toArray, List.set_cons_zero, List.set_cons_succ])
        refine wpAnyH_take (i := 3) (v := undef) rfl (by kernel_rfl) (by kernel_rfl) (by kernel_rfl) (fun _ _ _ h => h) (Or.inr ⟨by rfl, rfl⟩) (by assumption) ?_
        (try simp only [Act.put, List.getElem_toArray, List.getElem_cons_zero, List.getElem_cons_succ, List.setIfInBounds_toArray, List.set_cons_zero, List.set_cons_succ])
        refine wpAnyH_take (i := 4) (v := undef) rfl (by kernel_rfl) (by kernel_rfl) (by kernel_rfl) (fun _ _ _ h => h) (Or.inr ⟨by rfl, rfl⟩) (by assumption) ?_
        (try simp only [Act.put, List.getElem_toArray, List.getElem_cons_zero, List.getElem_cons_succ, List.setIfInBounds_toArray, List.set_cons_zero, List.set_cons_succ])
        refine wpAnyH_take (i := 5) (v := undef) rfl (by kernel_rfl) (by kernel_rfl) (by kernel_rfl) (fun _ _ _ h => h) (Or.inr ⟨by rfl, rfl⟩) (by assumption) ?_
        (try simp only [Act.put, List.getElem_toArray, List.getElem_cons_zero, List.getElem_cons_succ, List.setIfInBounds_toArray, List.set_cons_zero, List.set_cons_succ])
        refine wpAnyH_take (i := 6) (v := undef) rfl (by kernel_rfl) (by kernel_rfl) (by kernel_rfl) (fun _ _ _ h => h) (Or.inr ⟨by rfl, rfl⟩) (by assumption) ?_
        (try simp only [Act.put, List.getElem_toArray, List.getElem_cons_zero, List.getElem_cons_succ, List.setIfInBounds_toArray, List.set_cons_zero, List.set_cons_succ])
        refine wpAnyH_take (i := 7) (v := undef) rfl (by kernel_rfl) (by kernel_rfl) (by kernel_rfl) (fun _ _ _ h => h) (Or.inr ⟨by rfl, rfl⟩) (by assumption) ?_
        (try simp only [Act.put, List.getElem_toArray, List.getElem_cons_zero, List.getElem_cons_succ, List.setIfInBounds_toArray, List.set_cons_zero, List.set_cons_succ])
        refine wpAnyH_take (i := 8) (v := undef) rfl (by kernel_rfl) (by kernel_rfl) (by kernel_rfl) (fun _ _ _ h => h) (Or.inr ⟨by rfl, rfl⟩) (by assumption) ?_
        (try simp only [Act.put, List.getElem_toArray, List.getElem_cons_zero, List.getElem_cons_succ, List.setIfInBounds_toArray, List.set_cons_zero, List.set_cons_succ])
        refine wpAnyH_take (i := 9) (v := undef) rfl (by kernel_rfl) (by kernel_rfl) (by kernel_rfl) (fun _ _ _ h => h) (Or.inr ⟨by rfl, rfl⟩) (by assumption) ?_
        (try simp only [Act.put, List.getElem_toArray, List.getElem_cons_zero, List.getElem_cons_succ, List.setIfInBounds_toArray, List.set_cons_zero, List.set_cons_succ])
        refine wpAnyH_take (i := 10) (v := undef) rfl (by kernel_rfl) (by kernel_rfl) (by kernel_rfl) (fun _ _ _ h => h) (Or.inr ⟨by rfl, rfl⟩) (by assumption) ?_
        (try simp only [Act.put, List.getElem_toArray, List.getElem_cons_zero, List.getElem_cons_succ, List.setIfInBounds_toArray, List.set_cons_zero, List.set_cons_succ])
        refine wpAnyH_take (i := 11) (v := undef) rfl (by kernel_rfl) (by kernel_rfl) (by kernel_rfl) (fun _ _ _ h => h) (Or.inr ⟨by rfl, rfl⟩) (by assumption) ?_
        (try simp only [Act.put, List.getElem_toArray, List.getElem_cons_zero, List.getElem_cons_succ, List.setIfInBounds_toArray, List.set_cons_zero, List.set_cons_succ])
        refine wpAnyH_take (i := 12) (v := ?_) rfl (by kernel_rfl) (by kernel_rfl) (by kernel_rfl) (fun _ _ _ h => h) (Or.inl ⟨by rfl, ?_⟩) (by assumption) ?_
        rotate_left
        · (intro w hSw; (try dsimp only at hSw); go_simp; (try with_reducible rfl))
        (try simp only [Act.put, List.getElem_toArray, List.getElem_cons_zero, List.getElem_cons_succ, List.setIfInBounds_toArray, List.set_cons_zero, List.set_cons_succ])
        refine wpAnyH_take (i := 13) (v := ?_) rfl (by kernel_rfl) (by kernel_rfl) (by kernel_rfl) (fun _ _ _ h => h) (Or.inl ⟨by rfl, ?_⟩) (by assumption) ?_
        rotate_left
        · (intro w hSw; (try dsimp only at hSw); go_simp; (try with_reducible rfl))
        (try simp only [Act.put, List.getElem_toArray, List.getElem_cons_zero, List.getElem_cons_succ, List.setIfInBounds_toArray, List.set_cons_zero, List.set_cons_succ])
        refine wpAnyH_done (by kernel_rfl) ?_ _
        refine NoPanic.normal ?_
        go_wp2_with (refine load_blk (k := 0) 92 (mvC ⟨⟨false, p.vid, [p.ev]⟩, some ⟨w5.heap.size, 0, none⟩, 1⟩) (by rfl) rfl rfl HY7d (by kernel_rfl) (by kernel_rfl) rfl ?_)
        refine (HR0.out _ ((Below.refl w7.heap.size w7).drew)).mono ?_
        rintro e w8 ⟨rfl, b8⟩
        have b8' : Below w7.heap.size w7 w8 := ((Below.refl w7.heap.size w7).drew).trans b8
        have HY8 := HY7.kept b8'
        have HA8 := HA7.kept b8'
        have HE8 := HE7.kept b8'
        have HP8 := HP7.kept b8'
        have B8 := B7.trans (b8'.mono hb7)
        have hb8 : base ≤ w8.heap.size := Nat.le_trans hb7 b8'.size
        have h78 := b8'.size
        by_cases hpb : okPrB p = true
        · rw [hpb]
          rw [hpb, if_pos rfl] at hbq
          have hb0 : bp = 0 := hbq
          have hM0 : IntKind.i64.wrap ((0 : Int) - 1) = -1 := by decide
          go_upto_region 11 with (fail)
          refine wp_region_noPanic ?_
          refine wp_region_held_drew (S := (fun _ => True)) (by kernel_rfl) ?_ (fun hHeld => ?_)
          · exact trivial
          refine wpAnyH_take (i := 0) (v := ?_) rfl (by kernel_rfl) (by kernel_rfl) (by kernel_rfl) (fun _ _ _ h => h) (Or.inl ⟨by rfl, ?_⟩) (by assumption) ?_
          rotate_left
          · (intro w hSw; (try dsimp only at hSw); go_simp; (try with_reducible rfl))
          (try simp only [Act.put, List.getElem_toArray, List.getElem_cons_zero, List.getElem_cons_succ, List.setIfInBounds_toArray, List.set_cons_zero, List.set_cons_succ])
          refine wpAnyH_take (i := 1) (v := ?_) rfl (by kernel_rfl) (by kernel_rfl) (by kernel_rfl) (fun _ _ _ h => h) (Or.inl ⟨by rfl, ?_⟩) (by assumption) ?_
          rotate_left
          · (intro w hSw; (try dsimp only at hSw); go_simp; (try with_reducible rfl))
          (try simp only [Act.put, List.getElem_toArray, List.getElem_cons_zero, List.getElem_cons_succ, List.setIfInBounds_toArray, List.set_cons_zero, List.set_cons_succ])
          refine wpAnyH_take (i := 2) (v := ?_) rfl (by kernel_rfl) (by kernel_rfl) (by kernel_rfl) (fun _ _ _ h => h) (Or.inl ⟨by rfl, ?_⟩) (by assumption) ?_
          rotate_left
          · (intro w hSw; (try dsimp only at hSw); go_simp; (try with_reducible rfl))
          (try simp only [Act.put, List.getElem_toArray, List.getElem_cons_zero, List.getElem_cons_succ, List.setIfInBounds_toArray, List.set_cons_zero, List.set_cons_succ])
          refine wpAnyH_take (i := 3) (v := undef) rfl (by kernel_rfl) (by kernel_rfl) (by kernel_rfl) (fun _ _ _ h => h) (Or.inr ⟨by rfl, rfl⟩) (by assumption) ?_
          (try simp only [Act.put, List.getElem_toArray, List.getElem_cons_zero, List.getElem_cons_succ, List.setIfInBounds_toArray, List.set_cons_zero, List.set_cons_succ])
          refine wpAnyH_take (i := 4) (v := undef) rfl (by kernel_rfl) (by kernel_rfl) (by kernel_rfl) (fun _ _ _ h => h) (Or.inr ⟨by rfl, rfl⟩) (by assumption) ?_
          (try simp only [Act.put, List.getElem_toArray, List.getElem_cons_zero, List.getElem_cons_succ, List.setIfInBounds_toArray, List.set_cons_zero, List.set_cons_succ])
          refine wpAnyH_take (i := 5) (v := undef) rfl (by kernel_rfl) (by kernel_rfl) (by kernel_rfl) (fun _ _ _ h => h) (Or.inr ⟨by rfl, rfl⟩) (by assumption) ?_
          (try simp only [Act.put, List.getElem_toArray, List.getElem_cons_zero, List.getElem_cons_succ, List.setIfInBounds_toArray, List.set_cons_zero, List.set_cons_succ])
          refine wpAnyH_take (i := 6) (v := undef) rfl (by kernel_rfl) (by kernel_rfl) (by kernel_rfl) (fun _ _ _ h => h) (Or.inr ⟨by rfl, rfl⟩) (by assumption) ?_
          (try simp only [Act.put, List.getElem_toArray, List.getElem_cons_zero, List.getElem_cons_succ, List.setIfInBounds_toArray, List.set_cons_zero, List.set_cons_succ])
          refine wpAnyH_take (i := 7) (v := undef) rfl (by kernel_rfl) (by kernel_rfl) (by kernel_rfl) (fun _ _ _ h => h) (Or.inr ⟨by rfl, rfl⟩) (by assumption) ?_
          (try simp only [Act.put, List.getElem_toArray, List.getElem_cons_zero, List.getElem_cons_succ, List.setIfInBounds_toArray, List.set_cons_zero, List.set_cons_succ])
          refine wpAnyH_take (i := 8) (v := undef) rfl (by kernel_rfl) (by kernel_rfl) (by kernel_rfl) (fun _ _ _ h => h) (Or.inr ⟨by rfl, rfl⟩) (by assumption) ?_
          (try simp only [Act.put, List.getElem_toArray, List.getElem_cons_zero, List.getElem_cons_succ, List.setIfInBounds_toArray, List.set_cons_zero, List.set_cons_succ])
          refine wpAnyH_take (i := 9) (v := undef) rfl (by kernel_rfl) (by kernel_rfl) (by kernel_rfl) (fun _ _ _ h => h) (Or.inr ⟨by rfl, rfl⟩) (by assumption) ?_
          (try simp only [Act.put, List.getElem_toArray, List.getElem_cons_zero, List.getElem_cons_succ, List.setIfInBounds_toArray, List.set_cons_zero, List.set_cons_succ])
          refine wpAnyH_take (i := 10) (v := ?_) rfl (by kernel_rfl) (by kernel_rfl) (by kernel_rfl) (fun _ _ _ h => h) (Or.inl ⟨by rfl, ?_⟩) (by assumption) ?_
          rotate_left
          · (intro w hSw; (try dsimp only at hSw); go_simp; (try with_reducible rfl))
          (try simp only [Act.put, List.getElem_toArray, List.getElem_cons_zero, List.getElem_cons_succ, List.setIfInBounds_toArray, List.set_cons_zero, List.set_cons_succ])
          refine wpAnyH_done (by kernel_rfl) ?_ _
          refine NoPanic.normal ?_
          have HYx := HY8.drew
          have HMx : OwnMh w8.drew base (.slice none 0 0) [] := OwnMh.nil _ _
          have HEx := HE8.drew
          have Bx := B8.drew
          have hbx : base ≤ w8.drew.heap.size := hb8
          have HLx : ([] : List MvH).length ≤ 100000 := by simp
          have hLx : ([] : List Mv) = xs [] := rfl
          have hevx : ∀ x ∈ ([] : List MvH), OwnIv w8.drew base (evV x) x.x.ev ∧ ∀ q, (evV x).ownBlock = some q → q < w5.heap.size := by simp
          have hnox : NoGoB [] p.vid := fun l b e => by simp at e
          go_wp2_with (first
            | (refine load_blk (k := 0) 92 (mvC ⟨⟨false, p.vid, [p.ev]⟩, some ⟨w5.heap.size, 0, none⟩, 1⟩) (by rfl) rfl rfl HYx (by kernel_rfl) (by kernel_rfl) rfl ?_)
            | (refine sliceL_mh ⟨⟨false, p.vid, [p.ev]⟩, some ⟨w5.heap.size, 0, none⟩, 1⟩ rfl rfl rfl ?_; intro wa HSa ba sa; have HMa := HMx.kept ba; have HEa := HEx.kept ba)
            | (refine appendL_mh ⟨⟨false, p.vid, [p.ev]⟩, some ⟨w5.heap.size, 0, none⟩, 1⟩ rfl rfl rfl rfl HMa HSa HLx (Nat.le_trans hbx ba.size) ?_; intro vb wb HMb bb gb))
          have Bb := (Bx.trans (ba.mono hbx)).trans bb
          have HPb := PkSt.alone (E := w5.heap.size) hLx HMa (fun x hx => ⟨(hevx x hx).1.kept ba, (hevx x hx).2⟩) hb5 HEa hnox HMb gb
          go_roundw
          case rel => exact ⟨k + 1, _, HKM.out hb0, by go_num, rfl, by rw [HSN.out]; exact HPb, Bb⟩
          case measure => simp [intOf]; omega
        · have hpb : okPrB p = false := by simpa using hpb
          rw [hpb]
          rw [hpb] at hbq
          obtain ⟨hen1, _, rfl⟩ := HEN.out (HBD.out.resolve_left (fun q => by rw [hbq] at q; exact absurd q (by decide)))
          obtain rfl : e0 = 1 := by rw [← hen1, hbq]; rfl
          have B8d := B8
          have F8 : Flt (w8.alloc (.cells #[.int .i64 1, .int .i64 k] 144)) w8.heap.size 1 k := heap_alloc_new w8 _
          have B8 := B8d.alloc hb8 (.cells #[.int .i64 1, .int .i64 k] 144)
          go_wp2
          go_ret2
          exact ⟨_, _, rfl, Or.inr ⟨by decide, _, rfl, F8⟩, Or.inr ⟨by decide, rfl⟩, B8⟩
      · obtain ⟨j, hj⟩ : ∃ j, k = j + 1 := ⟨k - 1, by omega⟩
        have HV7 := HPV7.out j hj
        obtain ⟨pv, hpv⟩ : ∃ pv, vidN ps j = pv := ⟨_, rfl⟩
        rw [hpv] at HV7
        have hb2 : bp = if p.vid ≤ pv then 10 else if okPrB p then 0 else 1 := by
          rw [HB0.out, show k - 1 = j by omega, hpv]
          by_cases q : p.vid ≤ pv
          · rw [if_pos ⟨by omega, q⟩, if_pos q]
          · rw [if_neg (fun r => q r.2), if_neg q]
        have dk : decide ((0 : Int) < (k : Int)) = true := decide_eq_true (by omega)
        have dkN : decide (0 < k) = true := decide_eq_true (by omega)
        have dj : IntKind.i64.wrap ((k : Int) - 1) = (j : Int) := by rw [IntKind.wrap_i64] <;> omega
        have dj2 : (j : Int) < (ps.length : Int) := by omega
        have dj3 : (0 : Int) ≤ (j : Int) := by omega
        have hne := HNE.out (by omega)
        have HY7d := HY7.drew
        replace hj := Lib.hid hj
        clear HB0 HPV7 HNE HZ hpv
        by_cases hord : p.vid ≤ pv
        · have dv : decide (p.vid ≤ pv) = true := decide_eq_true hord
          rw [if_pos hord] at hb2
          obtain ⟨hen1, _, rfl⟩ := HEN.out (HBD.out.resolve_left (fun q => by rw [hb2] at q; exact absurd q (by decide)))
          obtain rfl : e0 = 10 := by rw [← hen1, hb2]
          clear HEN HBD HKM HSN HTK HLN hen1
          refine wp_region_noPanic ?_
          refine wp_region_held_drew (S := (fun w' => Blk w' G 84 (prC p) ∧ w'.cell? ⟨b, lo + j * 2, none⟩ = some (.int .i64 pv))) (by kernel_rfl) ?_ (fun hHeld => ?_)
          · exact ⟨HA7.drew, HV7⟩
          refine wpAnyH_take (i := 0) (v := ?_) rfl (by kernel_rfl) (by kernel_rfl) (by kernel_rfl) (fun _ _ _ h => h) (Or.inl ⟨by rfl, ?_⟩) (by assumption) ?_
          rotate_left
          · (intro w hSw; (try dsimp only at hSw); go_simp; (try with_reducible rfl))
          (try simp only [Act.put, List.getElem_toArray, List.getElem_cons_zero, List.getElem_cons_succ, List.setIfInBounds_toArray, List.set_cons_zero, List.set_cons_succ])
          refine wpAnyH_take (i := 1) (v := ?_) rfl (by kernel_rfl) (by kernel_rfl) (by kernel_rfl) (fun _ _ _ h => h) (Or.inl ⟨by rfl, ?_⟩) (by assumption) ?_
          rotate_left
          · (intro w hSw; (try dsimp only at hSw); go_simp; (try with_reducible rfl))
          (try simp only [Act.put, List.getElem_toArray, List.getElem_cons_zero, List.getElem_cons_succ, List.setIfInBounds_toArray, List.set_cons_zero, List.set_cons_succ])
          refine wpAnyH_take (i := 2) (v := ?_) rfl (by kernel_rfl) (by kernel_rfl) (by kernel_rfl) (fun _ _ _ h => h) (Or.inl ⟨by rfl, ?_⟩) (by assumption) ?_
          rotate_left
          · (intro w hSw; (try dsimp only at hSw); go_simp; (try with_reducible rfl))
          (try simp only [Act.put, List.getElem_toArray, List.getElem_cons_zero, List.getElem_cons_succ, List.setIfInBounds_toArray, List.set_cons_zero, List.set_cons_succ])
          refine wpAnyH_take (i := 3) (v := ?_) rfl (by kernel_rfl) (by kernel_rfl) (by kernel_rfl) (fun _ _ _ h => h) (Or.inl ⟨by rfl, ?_⟩) (by assumption) ?_
          rotate_left
          · (intro w hSw; (try dsimp only at hSw); go_simp; (try with_reducible rfl))
          (try simp only [Act.put, List.getElem_toArray, List.getElem_cons_zero, List.getElem_cons_succ, List.setIfInBounds_toArray, List.set_cons_zero, List.set_cons_succ])
          refine wpAnyH_take (i := 4) (v := .int .i64 p.vid) rfl (by kernel_rfl) (by kernel_rfl) (by kernel_rfl) (fun _ _ _ h => h) (Or.inl ⟨by rfl, fun w hSw => by have c := hSw.1.cv 0 (.int .i64 p.vid) rfl; go_simp⟩) (by assumption) ?_
          (try simp only [Act.put, List.getElem_toArray, List.getElem_cons_zero, List.getElem_cons_succ, List.setIfInBounds_toArray, List.set_cons_zero, List.set_cons_succ])
          refine wpAnyH_take (i := 5) (v := ?_) rfl (by kernel_rfl) (by kernel_rfl) (by kernel_rfl) (fun _ _ _ h => h) (Or.inl ⟨by rfl, ?_⟩) (by assumption) ?_
          rotate_left
          · (intro w hSw; (try dsimp only at hSw); go_simp; (try with_reducible rfl))
          (try simp only [Act.put, List.getElem_toArray, List.getElem_cons_zero, List.getElem_cons_succ, List.setIfInBounds_toArray, List.set_cons_zero, List.set_cons_succ])
          refine wpAnyH_take (i := 6) (v := ?_) rfl (by kernel_rfl) (by kernel_rfl) (by kernel_rfl) (fun _ _ _ h => h) (Or.inl ⟨by rfl, ?_⟩) (by assumption) ?_
          rotate_left
          · (intro w hSw; (try dsimp only at hSw); go_simp; (try with_reducible rfl))
          (try simp only [Act.put, List.getElem_toArray, List.getElem_cons_zero, List.getElem_cons_succ, List.setIfInBounds_toArray, List.set_cons_zero, List.set_cons_succ])
          refine wpAnyH_take (i := 7) (v := ?_) rfl (by kernel_rfl) (by kernel_rfl) (by kernel_rfl) (fun _ _ _ h => h) (Or.inl ⟨by rfl, ?_⟩) (by assumption) ?_
          rotate_left
          · (intro w hSw; (try dsimp only at hSw); go_simp; (try with_reducible rfl))
          (try simp only [Act.put, List.getElem_toArray, List.getElem_cons_zero, List.getElem_cons_succ, List.setIfInBounds_toArray, List.set_cons_zero, List.set_cons_succ])
          refine wpAnyH_take (i := 8) (v := ?_) rfl (by kernel_rfl) (by kernel_rfl) (by kernel_rfl) (fun _ _ _ h => h) (Or.inl ⟨by rfl, ?_⟩) (by assumption) ?_
          rotate_left
          · (intro w hSw; (try dsimp only at hSw); go_simp; (try with_reducible rfl))
          (try simp only [Act.put, List.getElem_toArray, List.getElem_cons_zero, List.getElem_cons_succ, List.setIfInBounds_toArray, List.set_cons_zero, List.set_cons_succ])
          refine wpAnyH_take (i := 9) (v := ?_) rfl (by kernel_rfl) (by kernel_rfl) (by kernel_rfl) (fun _ _ _ h => h) (Or.inl ⟨by rfl, ?_⟩) (by assumption) ?_
          rotate_left
          · (intro w hSw; (try dsimp only at hSw); go_simp; (try with_reducible rfl))
          (try simp only [Act.put, List.getElem_toArray, List.getElem_cons_zero, List.getElem_cons_succ, List.setIfInBounds_toArray, List.set_cons_zero, List.set_cons_succ])
          refine wpAnyH_take (i := 10) (v := .int .i64 pv) rfl (by kernel_rfl) (by kernel_rfl) (by kernel_rfl) (fun _ _ _ h => h) (Or.inl ⟨by rfl, fun w hSw => by have c := hSw.2; go_simp⟩) (by assumption) ?_
          (try simp only [Act.put, List.getElem_toArray, List.getElem_cons_zero, List.getElem_cons_succ, List.setIfInBounds_toArray, List.set_cons_zero, List.set_cons_succ])
          refine wpAnyH_take (i := 11) (v := ?_) rfl (by kernel_rfl) (by kernel_rfl) (by kernel_rfl) (fun _ _ _ h => h) (Or.inl ⟨by rfl, ?_⟩) (by assumption) ?_
          rotate_left
          · (intro w hSw; (try dsimp only at hSw); go_simp; (try with_reducible rfl))
          (try simp only [Act.put, List.getElem_toArray, List.getElem_cons_zero, List.getElem_cons_succ, List.setIfInBounds_toArray, List.set_cons_zero, List.set_cons_succ])
          refine wpAnyH_take (i := 12) (v := ?_) rfl (by kernel_rfl) (by kernel_rfl) (by kernel_rfl) (fun _ _ _ h => h) (Or.inl ⟨by rfl, ?_⟩) (by assumption) ?_
          rotate_left
          · (intro w hSw; (try dsimp only at hSw); go_simp; (try with_reducible rfl))
          (try simp only [Act.put, List.getElem_toArray, List.getElem_cons_zero, List.getElem_cons_succ, List.setIfInBounds_toArray, List.set_cons_zero, List.set_cons_succ])
          refine wpAnyH_take (i := 13) (v := ?_) rfl (by kernel_rfl) (by kernel_rfl) (by kernel_rfl) (fun _ _ _ h => h) (Or.inl ⟨by rfl, ?_⟩) (by assumption) ?_
          rotate_left
          · (intro w hSw; (try dsimp only at hSw); go_simp; (try with_reducible rfl))
          (try simp only [Act.put, List.getElem_toArray, List.getElem_cons_zero, List.getElem_cons_succ, List.setIfInBounds_toArray, List.set_cons_zero, List.set_cons_succ])
          refine wpAnyH_done (by kernel_rfl) ?_ _
          refine NoPanic.normal ?_
          have B7d := B7.drew
          have hs7d : base ≤ w7.drew.heap.size := hb7
          have F8 : Flt (w7.drew.alloc (.cells #[.int .i64 10, .int .i64 k] 144)) w7.drew.heap.size 10 k := heap_alloc_new w7.drew _
          have B8 := B7d.alloc hs7d (.cells #[.int .i64 10, .int .i64 k] 144)
          go_wp2
          go_ret2
          exact ⟨_, _, rfl, Or.inr ⟨by decide, _, rfl, F8⟩, Or.inr ⟨by decide, rfl⟩, B8⟩
        · have dv : decide (p.vid ≤ pv) = false := decide_eq_false hord
          rw [if_neg hord] at hb2
          refine wp_region_noPanic ?_
          refine wp_region_held_drew (S := (fun w' => Blk w' G 84 (prC p) ∧ w'.cell? ⟨b, lo + j * 2, none⟩ = some (.int .i64 pv))) (by kernel_rfl) ?_ (fun hHeld => ?_)
          · exact ⟨HA7.drew, HV7⟩
          refine wpAnyH_take (i := 0) (v := ?_) rfl (by kernel_rfl) (by kernel_rfl) (by kernel_rfl) (fun _ _ _ h => h) (Or.inl ⟨by rfl, ?_⟩) (by assumption) ?_
          rotate_left
          · (intro w hSw; (try dsimp only at hSw); go_simp; (try with_reducible rfl))
          (try simp only [Act.put, List.getElem_toArray, List.getElem_cons_zero, List.getElem_cons_succ, List.setIfInBounds_toArray, List.set_cons_zero, List.set_cons_succ])
          refine wpAnyH_take (i := 1) (v := ?_) rfl (by kernel_rfl) (by kernel_rfl) (by kernel_rfl) (fun _ _ _ h => h) (Or.inl ⟨by rfl, ?_⟩) (by assumption) ?_
          rotate_left
          · (intro w hSw; (try dsimp only at hSw); go_simp; (try with_reducible rfl))
          (try simp only [Act.put, List.getElem_toArray, List.getElem_cons_zero, List.getElem_cons_succ, List.setIfInBounds_toArray, List.set_cons_zero, List.set_cons_succ])
          refine wpAnyH_take (i := 2) (v := ?_) rfl (by kernel_rfl) (by kernel_rfl) (by kernel_rfl) (fun _ _ _ h => h) (Or.inl ⟨by rfl, ?_⟩) (by assumption) ?_
          rotate_left
          · (intro w hSw; (try dsimp only at hSw); go_simp; (try with_reducible rfl))
          (try simp only [Act.put, List.getElem_toArray, List.getElem_cons_zero, List.getElem_cons_succ, List.setIfInBounds_toArray, List.set_cons_zero, List.set_cons_succ])
          refine wpAnyH_take (i := 3) (v := ?_) rfl (by kernel_rfl) (by kernel_rfl) (by kernel_rfl) (fun _ _ _ h => h) (Or.inl ⟨by rfl, ?_⟩) (by assumption) ?_
          rotate_left
          · (intro w hSw; (try dsimp only at hSw); go_simp; (try with_reducible rfl))
          (try simp only [Act.put, List.getElem_toArray, List.getElem_cons_zero, List.getElem_cons_succ, List.setIfInBounds_toArray, List.set_cons_zero, List.set_cons_succ])
          refine wpAnyH_take (i := 4) (v := .int .i64 p.vid) rfl (by kernel_rfl) (by kernel_rfl) (by kernel_rfl) (fun _ _ _ h => h) (Or.inl ⟨by rfl, fun w hSw => by have c := hSw.1.cv 0 (.int .i64 p.vid) rfl; go_simp⟩) (by assumption) ?_
          (try simp only [Act.put, List.getElem_toArray, List.getElem_cons_zero, List.getElem_cons_succ, List.setIfInBounds_toArray, List.set_cons_zero, List.set_cons_succ])
          refine wpAnyH_take (i := 5) (v := ?_) rfl (by kernel_rfl) (by kernel_rfl) (by kernel_rfl) (fun _ _ _ h => h) (Or.inl ⟨by rfl, ?_⟩) (by assumption) ?_
          rotate_left
          · (intro w hSw; (try dsimp only at hSw); go_simp; (try with_reducible rfl))
          (try simp only [Act.put, List.getElem_toArray, List.getElem_cons_zero, List.getElem_cons_succ, List.setIfInBounds_toArray, List.set_cons_zero, List.set_cons_succ])
          refine wpAnyH_take (i := 6) (v := ?_) rfl (by kernel_rfl) (by kernel_rfl) (by kernel_rfl) (fun _ _ _ h => h) (Or.inl ⟨by rfl, ?_⟩) (by assumption) ?_
          rotate_left
          · (intro w hSw; (try dsimp only at hSw); go_simp; (try with_reducible rfl))
          (try simp only [Act.put, List.getElem_toArray, List.getElem_cons_zero, List.getElem_cons_succ, List.setIfInBounds_toArray, List.set_cons_zero, List.set_cons_succ])
          refine wpAnyH_take (i := 7) (v := ?_) rfl (by kernel_rfl) (by kernel_rfl) (by kernel_rfl) (fun _ _ _ h => h) (Or.inl ⟨by rfl, ?_⟩) (by assumption) ?_
          rotate_left
          · (intro w hSw; (try dsimp only at hSw); go_simp; (try with_reducible rfl))
          (try simp only [Act.put, List.getElem_toArray, List.getElem_cons_zero, List.getElem_cons_succ, List.setIfInBounds_toArray, List.set_cons_zero, List.set_cons_succ])
          refine wpAnyH_take (i := 8) (v := ?_) rfl (by kernel_rfl) (by kernel_rfl) (by kernel_rfl) (fun _ _ _ h => h) (Or.inl ⟨by rfl, ?_⟩) (by assumption) ?_
          rotate_left
          · (intro w hSw; (try dsimp only at hSw); go_simp; (try with_reducible rfl))
          (try simp only [Act.put, List.getElem_toArray, List.getElem_cons_zero, List.getElem_cons_succ, List.setIfInBounds_toArray, List.set_cons_zero, List.set_cons_succ])
          refine wpAnyH_take (i := 9) (v := ?_) rfl (by kernel_rfl) (by kernel_rfl) (by kernel_rfl) (fun _ _ _ h => h) (Or.inl ⟨by rfl, ?_⟩) (by assumption) ?_
          rotate_left
          · (intro w hSw; (try dsimp only at hSw); go_simp; (try with_reducible rfl))
          (try simp only [Act.put, List.getElem_toArray, List.getElem_cons_zero, List.getElem_cons_succ, List.setIfInBounds_toArray, List.set_cons_zero, List.set_cons_succ])
          refine wpAnyH_take (i := 10) (v := .int .i64 pv) rfl (by kernel_rfl) (by kernel_rfl) (by kernel_rfl) (fun _ _ _ h => h) (Or.inl ⟨by rfl, fun w hSw => by have c := hSw.2; go_simp⟩) (by assumption) ?_
          (try simp only [Act.put, List.getElem_toArray, List.getElem_cons_zero, List.getElem_cons_succ, List.setIfInBounds_toArray, List.set_cons_zero, List.set_cons_succ])
          refine wpAnyH_take (i := 11) (v := ?_) rfl (by kernel_rfl) (by kernel_rfl) (by kernel_rfl) (fun _ _ _ h => h) (Or.inl ⟨by rfl, ?_⟩) (by assumption) ?_
          rotate_left
          · (intro w hSw; (try dsimp only at hSw); go_simp; (try with_reducible rfl))
          (try simp only [Act.put, List.getElem_toArray, List.getElem_cons_zero, List.getElem_cons_succ, List.setIfInBounds_toArray, List.set_cons_zero, List.set_cons_succ])
          refine wpAnyH_take (i := 12) (v := ?_) rfl (by kernel_rfl) (by kernel_rfl) (by kernel_rfl) (fun _ _ _ h => h) (Or.inl ⟨by rfl, ?_⟩) (by assumption) ?_
          rotate_left
          · (intro w hSw; (try dsimp only at hSw); go_simp; (try with_reducible rfl))
          (try simp only [Act.put, List.getElem_toArray, List.getElem_cons_zero, List.getElem_cons_succ, List.setIfInBounds_toArray, List.set_cons_zero, List.set_cons_succ])
          refine wpAnyH_take (i := 13) (v := ?_) rfl (by kernel_rfl) (by kernel_rfl) (by kernel_rfl) (fun _ _ _ h => h) (Or.inl ⟨by rfl, ?_⟩) (by assumption) ?_
          rotate_left
          · (intro w hSw; (try dsimp only at hSw); go_simp; (try with_reducible rfl))
          (try simp only [Act.put, List.getElem_toArray, List.getElem_cons_zero, List.getElem_cons_succ, List.setIfInBounds_toArray, List.set_cons_zero, List.set_cons_succ])
          refine wpAnyH_done (by kernel_rfl) ?_ _
          refine NoPanic.normal ?_
          go_wp2_with (refine load_blk (k := 0) 92 (mvC ⟨⟨false, p.vid, [p.ev]⟩, some ⟨w5.heap.size, 0, none⟩, 1⟩) (by rfl) rfl rfl HY7d (by kernel_rfl) (by kernel_rfl) rfl ?_)
          refine (HR0.out _ ((Below.refl w7.heap.size w7).drew)).mono ?_
          rintro e w8 ⟨rfl, b8⟩
          have b8' : Below w7.heap.size w7 w8 := ((Below.refl w7.heap.size w7).drew).trans b8
          have HY8 := HY7.kept b8'
          have HA8 := HA7.kept b8'
          have HE8 := HE7.kept b8'
          have HP8 := HP7.kept b8'
          have B8 := B7.trans (b8'.mono hb7)
          have hb8 : base ≤ w8.heap.size := Nat.le_trans hb7 b8'.size
          have h78 := b8'.size
          by_cases hpb : okPrB p = true
          · rw [hpb]
            rw [hpb, if_pos rfl] at hb2
            have hb0 := Lib.hid hb2
            obtain ⟨hs, y, D, hL, hM5, hbD, hDw, hev5, hI5, hall5⟩ := HEb.out.last hne
            have bb := b57'.trans (b8'.mono b57'.size)
            have hM8 := hM5.kept bb
            have hev8 : ∀ x ∈ hs, OwnIv w8 base (evV x) x.x.ev ∧ ∀ g, (evV x).ownBlock = some g → g < D := fun x hx => ⟨(hev5 x hx).1.kept bb, (hev5 x hx).2⟩
            have hI8 := hI5.kept bb
            have hall8 : ∀ x ∈ hs ++ [y], OwnIv w8 base (evV x) x.x.ev ∧ ∀ g, (evV x).ownBlock = some g → g < w5.heap.size := fun x hx => ⟨(hall5 x hx).1.kept bb, (hall5 x hx).2⟩
            have hyk : okPk y.x := HTK.out y.x (by rw [hL]; simp)
            have hyl : y.x.ev.length ≤ 400 := hyk.2.2.1
            have hyf : -100000 ≤ y.x.first ∧ y.x.first ≤ 100000 := by have q1 := hyk.2.2.2.1; have q2 := hyk.2.2.2.2.1; omega
            have hDw8 : D ≤ w8.heap.size := Nat.le_trans hDw bb.size
            have hlt2 : hs.length + 1 ≤ 90000 := by
              have := HLN.out
              rw [hL] at this
              simpa [xs] using this
            have HLL := Lib.hid hL
            have HL3 : Hid ((hs ++ [y]).length ≤ 100000) := by
              show _ ≤ _
              rw [List.length_append]
              show hs.length + 1 ≤ _
              omega
            clear HEb HTK HLN hM5 hev5 hI5 hall5 bb hL hDw HP7 HP8 HA7 HY7 HE7 HIV hb2 hyk
            obtain ⟨g, cap, cur, rfl, hbg, hcur, hcs, hcat, hrow⟩ := mh_last hM8
            have hgG : g ≠ G := blk_ne hcur HA8 (by decide)
            have HGO := Lib.hid (fun W => goesOn_any y.x y.a y.c p.vid W hyf hyl)
            obtain ⟨gb, hgb⟩ : ∃ gb, goesM y.x p.vid = gb := ⟨_, rfl⟩
            rw [hgb] at HGO
            replace HGO : Hid (∀ W, Calls Tryd.prog 63 #[.agg (mvC y), .int .i64 p.vid] W fun e w' => e = .returned (.bool gb) ∧ Below W.heap.size W w') := HGO
            have HNL := Lib.hid (show hs.length = hs.length from rfl)
            obtain ⟨n, hn⟩ : ∃ n, hs.length = n := ⟨_, rfl⟩
            rw [hn] at hcs hcat hrow hlt2 hM8 ⊢
            replace hn := Lib.hid hn
            clear HNL hyf
            have dN : IntKind.i64.wrap ((((n + 1 : Nat) : Nat) : Int) - 1) = (n : Int) := by rw [IntKind.wrap_i64] <;> omega
            have dN2 : (n : Int) < ((n + 1 : Nat) : Int) := by omega
            have dN3 : (0 : Int) ≤ (n : Int) := by omega
            have dN4 : decide ((0 : Int) ≤ (n : Int)) = true := decide_eq_true dN3
            obtain ⟨N, hN⟩ : ∃ N, n + 1 = N := ⟨_, rfl⟩
            rw [hN] at dN dN2 hrow hM8 ⊢
            replace hN := Lib.hid hN
            have hcatd : CellsAt w8.drew g (n * 3) (mvC y) := hcat
            go_upto_region 11 with (fail)
            refine wp_region_noPanic ?_
            refine wp_region_held_drew (S := (fun w' => CellsAt w' g (n * 3) (mvC y) ∧ Blk w' G 84 (prC p))) (by kernel_rfl) ?_ (fun hHeld => ?_)
            · exact ⟨hcatd, HA8.drew⟩
            refine wpAnyH_take (i := 0) (v := ?_) rfl (by kernel_rfl) (by kernel_rfl) (by kernel_rfl) (fun _ _ _ h => h) (Or.inl ⟨by rfl, ?_⟩) (by assumption) ?_
            rotate_left
            · (intro w hSw; (try dsimp only at hSw); go_simp; (try with_reducible rfl))
            (try simp only [Act.put, List.getElem_toArray, List.getElem_cons_zero, List.getElem_cons_succ, List.setIfInBounds_toArray, List.set_cons_zero, List.set_cons_succ])
            refine wpAnyH_take (i := 1) (v := ?_) rfl (by kernel_rfl) (by kernel_rfl) (by kernel_rfl) (fun _ _ _ h => h) (Or.inl ⟨by rfl, ?_⟩) (by assumption) ?_
            rotate_left
            · (intro w hSw; (try dsimp only at hSw); go_simp; (try with_reducible rfl))
            (try simp only [Act.put, List.getElem_toArray, List.getElem_cons_zero, List.getElem_cons_succ, List.setIfInBounds_toArray, List.set_cons_zero, List.set_cons_succ])
            refine wpAnyH_take (i := 2) (v := ?_) rfl (by kernel_rfl) (by kernel_rfl) (by kernel_rfl) (fun _ _ _ h => h) (Or.inl ⟨by rfl, ?_⟩) (by assumption) ?_
            rotate_left
            · (intro w hSw; (try dsimp only at hSw); go_simp; (try with_reducible rfl))
            (try simp only [Act.put, List.getElem_toArray, List.getElem_cons_zero, List.getElem_cons_succ, List.setIfInBounds_toArray, List.set_cons_zero, List.set_cons_succ])
            refine wpAnyH_take (i := 3) (v := ?_) rfl (by kernel_rfl) (by kernel_rfl) (by kernel_rfl) (fun _ _ _ h => h) (Or.inl ⟨by rfl, ?_⟩) (by assumption) ?_
            rotate_left
            · (intro w hSw; (try dsimp only at hSw); go_simp; (try with_reducible rfl))
            (try simp only [Act.put, List.getElem_toArray, List.getElem_cons_zero, List.getElem_cons_succ, List.setIfInBounds_toArray, List.set_cons_zero, List.set_cons_succ])
            refine wpAnyH_take (i := 4) (v := ?_) rfl (by kernel_rfl) (by kernel_rfl) (by kernel_rfl) (fun _ _ _ h => h) (Or.inl ⟨by rfl, ?_⟩) (by assumption) ?_
            rotate_left
            · (intro w hSw; (try dsimp only at hSw); go_simp; (try with_reducible rfl))
            (try simp only [Act.put, List.getElem_toArray, List.getElem_cons_zero, List.getElem_cons_succ, List.setIfInBounds_toArray, List.set_cons_zero, List.set_cons_succ])
            refine wpAnyH_take (i := 5) (v := ?_) rfl (by kernel_rfl) (by kernel_rfl) (by kernel_rfl) (fun _ _ _ h => h) (Or.inl ⟨by rfl, ?_⟩) (by assumption) ?_
            rotate_left
            · (intro w hSw; (try dsimp only at hSw); go_simp; (try with_reducible rfl))
            (try simp only [Act.put, List.getElem_toArray, List.getElem_cons_zero, List.getElem_cons_succ, List.setIfInBounds_toArray, List.set_cons_zero, List.set_cons_succ])
            refine wpAnyH_take (i := 6) (v := .agg (mvC y)) rfl (by kernel_rfl) (by kernel_rfl) (by kernel_rfl) (fun _ _ _ h => h) (Or.inl ⟨by rfl, fun w hSw => exec_load_cells (k := n * 3) 92 (mvC y) rfl rfl hSw.1 (by kernel_rfl) (by kernel_rfl)⟩) (by assumption) ?_
            (try simp only [Act.put, List.getElem_toArray, List.getElem_cons_zero, List.getElem_cons_succ, List.setIfInBounds_toArray, List.set_cons_zero, List.set_cons_succ])
            refine wpAnyH_take (i := 7) (v := ?_) rfl (by kernel_rfl) (by kernel_rfl) (by kernel_rfl) (fun _ _ _ h => h) (Or.inl ⟨by rfl, ?_⟩) (by assumption) ?_
            rotate_left
            · (intro w hSw; (try dsimp only at hSw); go_simp; (try with_reducible rfl))
            (try simp only [Act.put, List.getElem_toArray, List.getElem_cons_zero, List.getElem_cons_succ, List.setIfInBounds_toArray, List.set_cons_zero, List.set_cons_succ])
            refine wpAnyH_take (i := 8) (v := .int .i64 p.vid) rfl (by kernel_rfl) (by kernel_rfl) (by kernel_rfl) (fun _ _ _ h => h) (Or.inl ⟨by rfl, fun w hSw => by have c := hSw.2.cv 0 (.int .i64 p.vid) rfl; go_simp⟩) (by assumption) ?_
            (try simp only [Act.put, List.getElem_toArray, List.getElem_cons_zero, List.getElem_cons_succ, List.setIfInBounds_toArray, List.set_cons_zero, List.set_cons_succ])
            refine wpAnyH_ready (rs := [9]) (by kernel_rfl) (by simp) ?_
            refine AllReadyH.cons rfl (fun K hK => ?_) AllReadyH.nil
            simp only [List.getElem_toArray, List.getElem_cons_zero, List.getElem_cons_succ]
            go_simp
            go_at_call 63; (with_reducible refine (HGO.out _).mono ?_); rintro e w9 ⟨rfl, b9⟩; have b9' := (Below.refl w8.heap.size w8).drew.trans b9; have hcat9 := hcat.below b9' hcur.lt; have HA9 := HA8.kept b9'
            refine hK.out _ _ ?_ (fun hHeld => ?_)
            · exact ⟨hcat9, HA9⟩
            clear hK K
            (try simp only [Act.put, List.getElem_toArray, List.getElem_cons_zero, List.getElem_cons_succ, List.setIfInBounds_toArray, List.set_cons_zero, List.set_cons_succ])
            refine wpAnyH_take (i := 10) (v := ?_) rfl (by kernel_rfl) (by kernel_rfl) (by kernel_rfl) (fun _ _ _ h => h) (Or.inl ⟨by rfl, ?_⟩) (by assumption) ?_
            rotate_left
            · (intro w hSw; (try dsimp only at hSw); go_simp; (try with_reducible rfl))
            (try simp only [Act.put, List.getElem_toArray, List.getElem_cons_zero, List.getElem_cons_succ, List.setIfInBounds_toArray, List.set_cons_zero, List.set_cons_succ])
            refine wpAnyH_done (by kernel_rfl) ?_ _
            refine NoPanic.normal ?_
            have HY9 := HY8.kept b9'
            have HE9 := HE8.kept b9'
            have hM9 := hM8.kept b9'
            have hI9 := hI8.kept b9'
            have hev9 : ∀ x ∈ hs, OwnIv w9 base (evV x) x.x.ev ∧ ∀ g, (evV x).ownBlock = some g → g < D := fun x hx => ⟨(hev8 x hx).1.kept b9', (hev8 x hx).2⟩
            have hall9 : ∀ x ∈ hs ++ [y], OwnIv w9 base (evV x) x.x.ev ∧ ∀ g, (evV x).ownBlock = some g → g < w5.heap.size := fun x hx => ⟨(hall8 x hx).1.kept b9', (hall8 x hx).2⟩
            have hrow9 := hrow.kept (grown0 b9') (Or.inr (by simp [Value.ownBlock]))
            have hcur9 := hcur.kept b9'
            have B9 := B8.trans (b9'.mono hb8)
            have hb9 : base ≤ w9.heap.size := Nat.le_trans hb8 b9'.size
            have hD9 : D ≤ w9.heap.size := Nat.le_trans hDw8 b9'.size
            clear HY8 HE8 hM8 hI8 hev8 hall8 hrow hcur B8 hcat hcatd HA8 b9 b9' HGO
            cases gb with
            | false =>
              have HYx := HY9
              have HMx : OwnMh w9 base (.slice (some ⟨g, 0, none⟩) N cap) (hs ++ [y]) := hM9
              have HEx := HE9
              have Bx := B9
              have hbx := hb9
              have HLx := HL3.out
              have hLx : L = xs (hs ++ [y]) := by rw [HLL.out, xs_last]
              have hevx := hall9
              have hnox : NoGoB L p.vid := by rw [HLL.out]; exact nogoB_last hgb
              replace hgb := Lib.hid hgb
              replace hLx := Lib.hid hLx
              clear hM9 hI9 hev9 hrow9 hcur9 hcat9 HA9
              go_wp2_with (first
                | (refine load_blk (k := 0) 92 (mvC ⟨⟨false, p.vid, [p.ev]⟩, some ⟨w5.heap.size, 0, none⟩, 1⟩) (by rfl) rfl rfl HYx (by kernel_rfl) (by kernel_rfl) rfl ?_)
                | (refine sliceL_mh ⟨⟨false, p.vid, [p.ev]⟩, some ⟨w5.heap.size, 0, none⟩, 1⟩ rfl rfl rfl ?_; intro wa HSa ba sa; have HMa := HMx.kept ba; have HEa := HEx.kept ba)
                | (refine appendL_mh ⟨⟨false, p.vid, [p.ev]⟩, some ⟨w5.heap.size, 0, none⟩, 1⟩ rfl rfl rfl rfl HMa HSa HLx (Nat.le_trans hbx ba.size) ?_; intro vb wb HMb bb gb))
              have Bb := (Bx.trans (ba.mono hbx)).trans bb
              have HPb := PkSt.alone (E := w5.heap.size) hLx.out HMa (fun x hx => ⟨(hevx x hx).1.kept ba, (hevx x hx).2⟩) hb5 HEa hnox HMb gb
              go_roundw
              case rel => exact ⟨k + 1, _, HKM.out hb0.out, by go_num, rfl, by rw [HSN.out]; exact HPb, Bb⟩
              case measure => simp [intOf]; omega
            | true =>
              have hEV : w9.cell? ⟨g, n * 3 + 2, none⟩ = some (.slice y.a y.x.ev.length y.c) := hcat9 2 _ rfl
              have hnc := Lib.hid (show n * 3 + 2 < cur.size by omega)
              replace hgb := Lib.hid hgb
              clear HY9 HE9 hall9 hM9
              go_upto_region 12 with (fail)
              refine wp_region_noPanic ?_
              refine wp_region_T (fun w' => w'.cell? ⟨g, n * 3 + 2, none⟩ = some (.slice y.a y.x.ev.length y.c)) (fun w' => Blk w' G 84 (prC p)) (fun j => j == 10) (by kernel_rfl) (⟨hEV, HA9.drew⟩) (fun hHeld => ?_)
              refine wpAnyT_takeT (i := 0) (v := ?_) rfl (by kernel_rfl) (by kernel_rfl) (by kernel_rfl) (by rfl) (fun _ _ _ h => h) (Or.inl ⟨by rfl, ?_⟩) (by assumption) ?_
              rotate_left
              · intro w hSw; clear hSw; go_simp; (try with_reducible rfl)
              (try simp only [Act.put, List.getElem_toArray, List.getElem_cons_zero, List.getElem_cons_succ, List.setIfInBounds_toArray, List.set_cons_zero, List.set_cons_succ])
              refine wpAnyT_takeT (i := 1) (v := ?_) rfl (by kernel_rfl) (by kernel_rfl) (by kernel_rfl) (by rfl) (fun _ _ _ h => h) (Or.inl ⟨by rfl, ?_⟩) (by assumption) ?_
              rotate_left
              · intro w hSw; clear hSw; go_simp; (try with_reducible rfl)
              (try simp only [Act.put, List.getElem_toArray, List.getElem_cons_zero, List.getElem_cons_succ, List.setIfInBounds_toArray, List.set_cons_zero, List.set_cons_succ])
              refine wpAnyT_takeT (i := 2) (v := ?_) rfl (by kernel_rfl) (by kernel_rfl) (by kernel_rfl) (by rfl) (fun _ _ _ h => h) (Or.inl ⟨by rfl, ?_⟩) (by assumption) ?_
              rotate_left
              · intro w hSw; clear hSw; go_simp; (try with_reducible rfl)
              (try simp only [Act.put, List.getElem_toArray, List.getElem_cons_zero, List.getElem_cons_succ, List.setIfInBounds_toArray, List.set_cons_zero, List.set_cons_succ])
              refine wpAnyT_takeT (i := 3) (v := ?_) rfl (by kernel_rfl) (by kernel_rfl) (by kernel_rfl) (by rfl) (fun _ _ _ h => h) (Or.inl ⟨by rfl, ?_⟩) (by assumption) ?_
              rotate_left
              · intro w hSw; clear hSw; go_simp; (try with_reducible rfl)
              (try simp only [Act.put, List.getElem_toArray, List.getElem_cons_zero, List.getElem_cons_succ, List.setIfInBounds_toArray, List.set_cons_zero, List.set_cons_succ])
              refine wpAnyT_takeT (i := 4) (v := ?_) rfl (by kernel_rfl) (by kernel_rfl) (by kernel_rfl) (by rfl) (fun _ _ _ h => h) (Or.inl ⟨by rfl, ?_⟩) (by assumption) ?_
              rotate_left
              · intro w hSw; clear hSw; go_simp; (try with_reducible rfl)
              (try simp only [Act.put, List.getElem_toArray, List.getElem_cons_zero, List.getElem_cons_succ, List.setIfInBounds_toArray, List.set_cons_zero, List.set_cons_succ])
              refine wpAnyT_takeT (i := 5) (v := ?_) rfl (by kernel_rfl) (by kernel_rfl) (by kernel_rfl) (by rfl) (fun _ _ _ h => h) (Or.inl ⟨by rfl, ?_⟩) (by assumption) ?_
              rotate_left
              · intro w hSw; clear hSw; go_simp; (try with_reducible rfl)
              (try simp only [Act.put, List.getElem_toArray, List.getElem_cons_zero, List.getElem_cons_succ, List.setIfInBounds_toArray, List.set_cons_zero, List.set_cons_succ])
              refine wpAnyT_takeT (i := 7) (v := ?_) rfl (by kernel_rfl) (by kernel_rfl) (by kernel_rfl) (by rfl) (fun _ _ _ h => h) (Or.inl ⟨by rfl, ?_⟩) (by assumption) ?_
              rotate_left
              · intro w hSw; clear hSw; go_simp; (try with_reducible rfl)
              (try simp only [Act.put, List.getElem_toArray, List.getElem_cons_zero, List.getElem_cons_succ, List.setIfInBounds_toArray, List.set_cons_zero, List.set_cons_succ])
              refine wpAnyT_take (i := 6) (v := (.slice y.a y.x.ev.length y.c)) rfl (by kernel_rfl) (by kernel_rfl) (by kernel_rfl) (by rfl) (by kernel_rfl) (fun _ _ _ h => h) (Or.inl ⟨by rfl, fun w hSw => by have c := hSw; go_simp⟩) (by assumption) ?_
              (try simp only [Act.put, List.getElem_toArray, List.getElem_cons_zero, List.getElem_cons_succ, List.setIfInBounds_toArray, List.set_cons_zero, List.set_cons_succ])
              refine wpAnyT_takeT (i := 8) (v := (.int .i64 p.ev)) rfl (by kernel_rfl) (by kernel_rfl) (by kernel_rfl) (by rfl) (fun _ _ _ h => h) (Or.inl ⟨by rfl, fun w hSw => by have c := hSw.cv 1 (.int .i64 p.ev) rfl; go_simp⟩) (by assumption) ?_
              (try simp only [Act.put, List.getElem_toArray, List.getElem_cons_zero, List.getElem_cons_succ, List.setIfInBounds_toArray, List.set_cons_zero, List.set_cons_succ])
              refine wpAnyT_one (r := 9) (by kernel_rfl) rfl (by rfl) (by rfl) (fun K hK => ?_)
              (try simp only [List.getElem_toArray, List.getElem_cons_zero, List.getElem_cons_succ])
              refine slice_iv p.ev rfl rfl (fun wa HSa ba sa => ?_)
              have ba' := (Below.refl w9.heap.size w9).drew.trans ba
              have HAa := HA9.kept ba'
              have hIa := hI9.kept ba'
              have heva : ∀ x ∈ hs, OwnIv wa base (evV x) x.x.ev ∧ ∀ g, (evV x).ownBlock = some g → g < D := fun x hx => ⟨(hev9 x hx).1.kept ba', (hev9 x hx).2⟩
              have hrowa := hrow9.kept (grown0 ba') (Or.inr (by simp [Value.ownBlock]))
              have hcura := hcur9.kept ba'
              have Ba := B9.trans (ba'.mono hb9)
              have hba : base ≤ wa.heap.size := Nat.le_trans hb9 ba'.size
              have hDa : D ≤ wa.heap.size := Nat.le_trans hD9 ba'.size
              have hEVa : wa.cell? ⟨g, n * 3 + 2, none⟩ = some (.slice y.a y.x.ev.length y.c) := (ba'.cell (p := ⟨g, n * 3 + 2, none⟩) hcur9.lt).trans hEV
              refine hK _ _ ?_ (fun hHeld => ?_)
              · exact ⟨hEVa, HAa⟩
              clear hK K
              (try simp only [Act.put, List.getElem_toArray, List.getElem_cons_zero, List.getElem_cons_succ, List.setIfInBounds_toArray, List.set_cons_zero, List.set_cons_succ])
              refine wpAnyT_last (r := 10) (by kernel_rfl) rfl (by rfl) (by rfl) (fun K hK => ?_)
              (try simp only [List.getElem_toArray, List.getElem_cons_zero, List.getElem_cons_succ])
              refine append_iv (v := evV y) p.ev rfl rfl rfl hIa HSa (by omega) hDa (fun vb wb Ob bb gbb => ?_)
              have Bb := Ba.trans (bb.mono hbD)
              have hcurb : Blk wb g 92 cur := by
                rcases hIa.blk with e | ⟨q, C, e, _, hq⟩
                · rw [e] at gbb; exact hcura.grown gbb (by simp)
                · rw [e] at gbb; exact hcura.grown gbb (by intro e2; cases e2; exact blk_ne hcura hq (by decide) rfl)
              have HAb : Blk wb G 84 (prC p) := by
                rcases hIa.blk with e | ⟨q, C, e, _, hq⟩
                · rw [e] at gbb; exact HAa.grown gbb (by simp)
                · rw [e] at gbb; exact HAa.grown gbb (by intro e2; cases e2; exact blk_ne HAa hq (by decide) rfl)
              obtain ⟨a3, c3, hv3, -⟩ := Ob.inL
              subst hv3
              have Ob2 := Lib.hid Ob
              obtain ⟨L3, hL3⟩ : ∃ L3, (y.x.ev ++ [p.ev]).length = L3 := ⟨_, rfl⟩
              rw [hL3] at Ob2 ⊢
              clear Ob hL3
              refine hK _ _ ?_ (fun hHeld => ?_)
              · exact HAb
              clear hK K
              (try simp only [Act.put, List.getElem_toArray, List.getElem_cons_zero, List.getElem_cons_succ, List.setIfInBounds_toArray, List.set_cons_zero, List.set_cons_succ])
              refine wpAnyH_take (i := 11) (v := ?_) rfl (by kernel_rfl) (by kernel_rfl) (by kernel_rfl) (fun _ _ _ h => h) (Or.inl ⟨by rfl, ?_⟩) (by assumption) ?_
              rotate_left
              · (intro w hSw; clear hSw; go_simp; (try with_reducible rfl))
              (try simp only [Act.put, List.getElem_toArray, List.getElem_cons_zero, List.getElem_cons_succ, List.setIfInBounds_toArray, List.set_cons_zero, List.set_cons_succ])
              refine wpAnyH_take (i := 12) (v := ?_) rfl (by kernel_rfl) (by kernel_rfl) (by kernel_rfl) (fun _ _ _ h => h) (Or.inl ⟨by rfl, ?_⟩) (by assumption) ?_
              rotate_left
              · (intro w hSw; clear hSw; go_simp; (try with_reducible rfl))
              (try simp only [Act.put, List.getElem_toArray, List.getElem_cons_zero, List.getElem_cons_succ, List.setIfInBounds_toArray, List.set_cons_zero, List.set_cons_succ])
              refine wpAnyH_ready (rs := [13]) (by kernel_rfl) (by simp) ?_
              refine AllReadyH.cons rfl (fun K hK => ?_) AllReadyH.nil
              simp only [List.getElem_toArray, List.getElem_cons_zero, List.getElem_cons_succ]
              rw [if_pos (by rfl)]
              refine wp_store_op (k := n * 3 + 2) 90 (.slice a3 L3 c3) (cur.setIfInBounds (n * 3 + 2) (.slice a3 L3 c3)) (by rfl) rfl rfl hcurb (by kernel_rfl) (by have := hnc.out; exact this) (by rfl) (st_cell _ _ _ _ rfl hnc.out rfl) (fun wc HCc bc gc => ?_)
              have HAc : Blk wc G 84 (prC p) := HAb.grown gc (by intro e; cases e; exact hgG rfl)
              have Bc := Bb.trans (bc.mono hbg)
              refine hK.out _ _ ?_ (fun hHeld => ?_)
              · exact HAc
              clear hK K
              (try simp only [Act.put, List.getElem_toArray, List.getElem_cons_zero, List.getElem_cons_succ, List.setIfInBounds_toArray, List.set_cons_zero, List.set_cons_succ])
              refine wpAnyH_done (by kernel_rfl) ?_ _
              refine NoPanic.normal ?_
              go_wp2_with fail
              go_roundw
              case rel => exact ⟨k + 1, _, HKM.out hb0.out, by go_num, rfl, by
                rw [HSN.out]
                have hN2 := hN.out
                subst hN2
                exact PkSt.go hn.out.symm HLL.out hgb.out hrowa hbg hcura hbD hDa heva hIa Ob2.out gbb gc HCc, Bc⟩
              case measure => simp [intOf]; omega
          · have hpb : okPrB p = false := by simpa using hpb
            rw [hpb]
            rw [hpb] at hb2
            obtain ⟨hen1, _, rfl⟩ := HEN.out (HBD.out.resolve_left (fun q => by rw [hb2] at q; exact absurd q (by decide)))
            obtain rfl : e0 = 1 := by rw [← hen1, hb2]; rfl
            have B8d := B8
            clear HEN HBD HKM HSN HTK HLN hen1
            have F8 : Flt (w8.alloc (.cells #[.int .i64 1, .int .i64 k] 144)) w8.heap.size 1 k := heap_alloc_new w8 _
            have B8 := B8d.alloc hb8 (.cells #[.int .i64 1, .int .i64 k] 144)
            go_wp2
            go_ret2
            exact ⟨_, _, rfl, Or.inr ⟨by decide, _, rfl, F8⟩, Or.inr ⟨by decide, rfl⟩, B8⟩
    · obtain rfl : k = ps.length := by omega
      obtain rfl : m = ps.length := by omega
      obtain ⟨rfl, rfl⟩ : e0 = 0 ∧ pl = -1 := by
        rcases HEND.out with ⟨_, r2, r3⟩ | ⟨r1, _⟩
        · exact ⟨r2, r3⟩
        · omega
      have q2 : decide ((ps.length : Int) < (ps.length : Int)) = false := decide_eq_false (by omega)
      rw [List.take_length] at HP
      go_wp2
      go_ret2
      exact ⟨_, _, rfl, Or.inl ⟨rfl, rfl, rfl⟩, Or.inl ⟨rfl, HP⟩, Bk⟩

end Go.Proofs.YtdjljnpbnhampaaDoor

namespace Go.Proofs.YtdjljnpbnhampaaDoor
open Go.RowKit
attribute [local go_sem ↓] Go.wp_at_zero Go.wp_at_succ
set_option linter.unusedSimpArgs false
set_option linter.unusedVariables false
set_option maxRecDepth 100000

/-- What is packed; nothing where a VID may not be. -/
def pkX (ps : List Pr) (e0 : Int) : List Mv := if e0 = 0 then mpkL ps else []

theorem refPack_end (a : Option Addr) (c : Nat) (ps : List Pr) (m : Nat) (hm : m ≤ ps.length) (hok : ∀ (k : Nat) (hk : k < ps.length), k < m → badP ps k ps[k] = 0) (e0 pl : Int)
    (hend : (m = ps.length ∧ e0 = 0 ∧ pl = -1) ∨ (∃ hk : m < ps.length, badP ps m ps[m] = e0 ∧ e0 ≠ 0 ∧ pl = m)) (w : World) (h : PrIn w a ps) (hl : ps.length ≤ 1000) (hlc : ps.length ≤ c) (hcm : c ≤ 9223372036854775807) :
    Calls Tryd.prog 16 #[.slice a ps.length c] w fun e w' => ∃ a1 c1 l1, e = .returned (.tuple #[.slice a1 l1.length c1, .agg (ftC e0 pl)]) ∧ xs l1 = pkX ps e0 ∧ MvsIn w' a1 l1 ∧ Below w.heap.size w w' := by
  have hnil : ∀ W, MvsIn W none [] := fun W => ⟨Or.inl rfl, by simp⟩
  rcases Nat.eq_zero_or_pos ps.length with h0 | h0
  · obtain rfl := List.eq_nil_of_length_eq_zero h0
    obtain ⟨rfl, rfl⟩ : e0 = 0 ∧ pl = -1 := by
      rcases hend with ⟨_, r2, r3⟩ | ⟨r1, _⟩
      · exact ⟨r2, r3⟩
      · simp at r1
    refine (refPack_nil a c w).mono ?_
    rintro e w' ⟨rfl, b⟩
    exact ⟨none, 0, [], rfl, rfl, hnil w', b⟩
  · obtain ⟨b, lo, rfl, hbl, hat⟩ := h.at h0
    refine (refPack_some b lo c ps h0 m hm hok e0 pl hend w hbl hat hl hlc hcm).mono ?_
    rintro e w' ⟨v, rfl, hR, hb⟩
    rcases hR with ⟨rfl, hs, hx, hO⟩ | ⟨he, rfl⟩
    · obtain ⟨a2, c2, rfl, hm⟩ := ownAs_in hO
      exact ⟨a2, c2, hs, rfl, by rw [hx]; rfl, hm, hb⟩
    · exact ⟨none, 0, [], rfl, by unfold pkX; rw [if_neg he]; rfl, hnil w', hb⟩

theorem mvPack_end (a : Option Addr) (c : Nat) (ps : List Pr) (m : Nat) (hm : m ≤ ps.length) (hok : ∀ (k : Nat) (hk : k < ps.length), k < m → badP ps k ps[k] = 0) (e0 pl : Int)
    (hend : (m = ps.length ∧ e0 = 0 ∧ pl = -1) ∨ (∃ hk : m < ps.length, badP ps m ps[m] = e0 ∧ e0 ≠ 0 ∧ pl = m)) (w : World) (h : PrIn w a ps) (hl : ps.length ≤ 1000) :
    Calls Tryd.prog 17 #[.slice a ps.length c] w fun e w' => ∃ a1 c1 l1 er, e = .returned (.tuple #[.slice a1 l1.length c1, er]) ∧ xs l1 = pkX ps e0 ∧ MvsIn w' a1 l1 ∧ ErrAs w' er e0 pl ∧ Below w.heap.size w w' := by
  refine (mvPack_some a c ps m hm hok e0 pl hend w h (by omega)).mono ?_
  rintro e w' ⟨v, er, rfl, hE, hR, hb⟩
  rcases hR with ⟨rfl, hP⟩ | ⟨he, rfl⟩
  · obtain ⟨hs, hx, hO⟩ := hP.asb
    obtain ⟨a2, c2, rfl, hm⟩ := ownAs_in hO
    exact ⟨a2, c2, hs, er, rfl, by rw [hx]; rfl, hm, hE, hb⟩
  · exact ⟨none, 0, [], er, rfl, by unfold pkX; rw [if_neg he]; rfl, ⟨Or.inl rfl, by simp⟩, hE, hb⟩

theorem pkX_len (ps : List Pr) (e0 : Int) : (pkX ps e0).length ≤ ps.length := by
  unfold pkX
  split
  · have := mpkL_len ps []
    simpa [mpkL] using this
  · simp

theorem pk_end (ps : List Pr) : ∃ (m : Nat) (e0 pl : Int), m ≤ ps.length ∧ (∀ (k : Nat) (hk : k < ps.length), k < m → badP ps k ps[k] = 0) ∧ ((m = ps.length ∧ e0 = 0 ∧ pl = -1) ∨ (∃ hk : m < ps.length, badP ps m ps[m] = e0 ∧ e0 ≠ 0 ∧ pl = m)) := by
  rcases pk_or ps with h | ⟨m, hm, h1, h2⟩
  · exact ⟨ps.length, 0, -1, Nat.le_refl _, fun k hk _ => h k hk, Or.inl ⟨rfl, rfl, rfl⟩⟩
  · exact ⟨m, badP ps m ps[m], m, Nat.le_of_lt hm, h2, Or.inr ⟨hm, rfl, h1, rfl⟩⟩

end Go.Proofs.YtdjljnpbnhampaaDoor

namespace Go.Proofs.YtdjljnpbnhampaaDoor
open Go.RowKit
attribute [local go_sem ↓] Go.wp_at_zero Go.wp_at_succ
set_option linter.unusedSimpArgs false
set_option linter.unusedVariables false
set_option maxRecDepth 100000

theorem blk_rp {w w' : World} {v : Value} {l : List Pr} {base B : Nat} {T : TypeId} {C : Array Value} (hO : OwnRp w base v l) (hg : w.grownBy w' v.ownBlock) (h : Blk w B T C) (hT : T ≠ 83) : Blk w' B T C := by
  refine h.grown hg ?_
  rcases hO.blk with e | ⟨g, C2, e, _, hB⟩
  · rw [e]; simp
  · rw [e]
    intro e2
    cases e2
    have q1 : w.heap[B]? = some (.cells C T (0, 0)) := h
    have q2 : w.heap[B]? = some (.cells C2 83 (0, 0)) := hB
    rw [q1] at q2
    injection q2 with q2
    injection q2 with _ q2
    exact hT q2

theorem exec_build_rp {P : Program} {a : Act} {o : Oper} {w : World} {t : TypeId} {parts : Array (Nat × Operand)} (X : Array Value) (ho : o.op = .build t parts)
    (hf : P.built t (parts.map fun (i, x) => (i, a.eval x)).toList = some X) : (execOp a.eval o).run P w = .ok (.value (.agg X)) w := by
  have h1 := run_build (P := P) w t (parts.map fun (i, x) => (i, a.eval x)) X hf
  unfold execOp
  simp only [ho, Sem.run_bind, Result.andThen_ok, h1, Sem.run_pure]

set_option maxHeartbeats 6400000 in
theorem refMvEach_any (a : Option Addr) (c : Nat) (hs : List MvH) (w : World) (h : MvsIn w a hs) (hm : hs.length ≤ maxLen) (hsum : (eachL (xs hs)).length ≤ 90000) :
    Calls Tryd.prog 14 #[.slice a hs.length c] w fun e w' => ∃ v, e = .returned v ∧ OwnRp w' w.heap.size v (eachL (xs hs)) ∧ Below w.heap.size w w' := by
  have k1 : hs.length ≤ 9223372036854775807 := hm
  clear hm
  obtain ⟨base, hbase⟩ : ∃ base, w.heap.size = base := ⟨_, rfl⟩
  have hO0 := OwnRp.nil w base
  have HLE := Lib.hid (eachL_le hs)
  have hb0 : Below base w w := Below.refl _ _
  rw [hbase]
  go_enter Tryd.func14, Tryd.ntmps14
  go_wp2_with fail
  go_loopw [3, 9] (fun v i wr => ∃ k : Nat, k ≤ hs.length ∧ i = .int .i64 k ∧ OwnRp wr base v (eachL (xs (hs.take k))) ∧ Below base w wr) (fun _ i _ => hs.length - (intOf i).toNat)
  case atStart => exact ⟨0, by omega, rfl, hO0, hb0⟩
  case round =>
    obtain ⟨k, hk, rfl, HO, Bk⟩ := hrel
    clear hO0 hb0
    by_cases hlt : k < hs.length
    · have hI := h.below (by rw [hbase]; exact Bk)
      obtain ⟨b, lo, rfl, hbl, hat⟩ := hI.row.at hlt
      have q1 : (k : Int) < (hs.length : Int) := by omega
      have q2 : decide ((k : Int) < (hs.length : Int)) = true := decide_eq_true q1
      have q3 : (0 : Int) ≤ (k : Int) := by omega
      have q4 : IntKind.i64.wrap ((k : Int) + 1) = (k : Int) + 1 := by rw [IntKind.wrap_i64] <;> omega
      have HK := hat k hlt
      have hmem := List.getElem_mem hlt
      have hev0 := h.ev _ hmem
      have HS := Lib.hid (eachL_take hs k hlt)
      have HL2 := Lib.hid (HLE.out (k + 1))
      have hsw := Bk.size
      rw [hbase] at hsw
      generalize hs[k] = y at *
      clear hat hI hmem
      obtain ⟨v0, hv0⟩ : ∃ acc, eachL (xs (hs.take k)) = acc := ⟨_, rfl⟩
      rw [hv0] at HO HS
      clear hv0
      have HA4 := Blk.new wr 92 (mvC zMvH)
      have b4 : Below wr.heap.size wr (wr.alloc (.cells (mvC zMvH) 92)) := (Below.refl _ _).alloc (Nat.le_refl _) _
      go_upto_region 5 with (first
        | (refine load_cells (B := b) (k := lo + k * 3) 92 (mvC y) (by rfl) rfl rfl HK (by kernel_rfl) (by kernel_rfl) ?_)
        | (refine alloc_blk 92 (mvC zMvH) (by rfl) rfl Tryd.mhZero ?_)
        | (refine store_blk (k := 0) 92 (.agg (mvC y)) (mvC y) (by rfl) rfl rfl rfl HA4 (by kernel_rfl) (show (3 : Nat) ≤ 3 from Nat.le_refl 3) (by rfl) (st_whole _ _ rfl) ?_; intro w5 HA5 b5 g5))
      have B5 := Bk.trans ((b4.trans b5).mono hsw)
      have HO5 := HO.kept (b4.trans b5)
      obtain ⟨B, hB⟩ : ∃ B, wr.heap.size = B := ⟨_, rfl⟩
      rw [hB] at HA5
      rw [hB] at hsw
      clear HA4 b4 b5 g5 HK HO Bk
      have c2 := HA5.cv 2 (.slice y.a y.x.ev.length y.c) rfl
      have c1 := HA5.cv 1 (.int .i64 y.x.first) rfl
      obtain ⟨⟨ya, yf, ye⟩, yp, yc⟩ := y
      simp only at c1 c2 hev0 HS
      go_wp2_with fail
      have HLEN : Hid (v0.length + ye.length ≤ 90000) := by
        show _ ≤ _
        have e1 := HL2.out
        rw [HS.out, List.length_append, prsF_len] at e1
        omega
      have hyl : ye.length ≤ 9223372036854775807 := by have := HLEN.out; omega
      have HEV := Lib.hid hev0.1
      clear c1 c2 hev0 HL2
      go_loopw [3, 16] (fun v i wv => ∃ (j : Nat) (v2 : Value), v2 = v ∧ j ≤ ye.length ∧ i = .int .i64 j ∧ OwnRp wv base v2 (v0 ++ prsF yf 0 (ye.take j)) ∧ Blk wv B 92 #[.bool ya, .int .i64 yf, .slice yp ye.length yc] ∧ Below base w wv) (fun _ i _ => ye.length - (intOf i).toNat)
      case atStart => exact ⟨0, _, rfl, Nat.zero_le _, rfl, by rw [List.take_zero, prsF, List.append_nil]; exact HO5, HA5, B5⟩
      case round =>
        clear HA5 HO5 B5
        obtain ⟨j, v, rfl, hj, rfl, HO, HA, Bj⟩ := hrel
        have c1 := HA.cv 1 (.int .i64 yf) rfl
        by_cases hjl : j < ye.length
        · have hin := HEV.out.below (by rw [hbase]; exact Bj)
          obtain ⟨eb, eo, rfl, hel, het⟩ := hin.at hjl
          have heb : eb < base := by
            have hin0 := HEV.out
            obtain ⟨eb2, eo2, e2, hel2, _⟩ := hin0.at hjl
            cases e2
            rw [← hbase]
            exact hel2
          have p1 : (j : Int) < (ye.length : Int) := by omega
          have p2 : decide ((j : Int) < (ye.length : Int)) = true := decide_eq_true p1
          have p3 : (0 : Int) ≤ (j : Int) := by omega
          have p4 : IntKind.i64.wrap ((j : Int) + 1) = (j : Int) + 1 := by rw [IntKind.wrap_i64] <;> omega
          have HJ := het j hjl
          have hsn : Hid (prsF yf 0 (ye.take (j + 1)) = prsF yf 0 (ye.take j) ++ [⟨IntKind.i64.wrap (yf + (j : Int)), ye[j]⟩]) := by
            show _ = _
            have e : ye.take (j + 1) = ye.take j ++ [ye[j]] := by rw [List.take_add_one, List.getElem?_eq_getElem hjl]; rfl
            rw [e, prsF_snoc, Nat.zero_add, List.length_take, Nat.min_eq_left (by omega)]
          have hln : Hid ((v0 ++ prsF yf 0 (ye.take j)).length ≤ 90000) := by
            show _ ≤ _
            have e1 := HLEN.out
            rw [List.length_append, prsF_len, List.length_take]
            omega
          have hbw : base ≤ wr.heap.size := by rw [← hbase]; have q := Bj.size; rw [hbase] at q ⊢; exact q
          generalize ye[j] = ev at *
          have KX : wr.cell? ⟨eb, eo + j, none⟩ = some (.int .i64 ev) := by
            have q := HJ 0 (.int .i64 ev) rfl
            rw [Nat.mul_one, Nat.add_zero] at q
            exact q
          clear HJ het hin
          obtain ⟨vid, hvid⟩ : ∃ vid, IntKind.i64.wrap (yf + (j : Int)) = vid := ⟨_, rfl⟩
          rw [hvid] at hsn
          obtain ⟨acc, hacc⟩ : ∃ acc, v0 ++ prsF yf 0 (ye.take j) = acc := ⟨_, rfl⟩
          have hsn2 : Hid (v0 ++ prsF yf 0 (ye.take (j + 1)) = acc ++ [⟨vid, ev⟩]) := by
            show _ = _
            rw [hsn.out, ← List.append_assoc, hacc]
          rw [hacc] at HO hln
          clear hacc hsn HS HLEN HEV
          have HAd := HA.drew
          have KXd : wr.drew.cell? ⟨eb, eo + j, none⟩ = some (.int .i64 ev) := KX
          go_wp2_with fail
          refine wp_region_noPanic ?_
          refine wp_region_held_drew (S := (fun w' => Blk w' B 92 #[.bool ya, .int .i64 yf, .slice (some ⟨eb, eo, none⟩) ye.length yc] ∧ w'.cell? ⟨eb, eo + j, none⟩ = some (.int .i64 ev))) (by kernel_rfl) ?_ (fun hHeld => ?_)
          · exact ⟨HAd, KXd⟩
          refine wpAnyH_take (i := 0) (v := ?_) rfl (by kernel_rfl) (by kernel_rfl) (by kernel_rfl) (fun _ _ _ h => h) (Or.inl ⟨by rfl, ?_⟩) (by assumption) ?_
          rotate_left
          · (intro w hSw; (try dsimp only at hSw); go_simp; (try with_reducible rfl))
          (try simp only [Act.put, List.getElem_toArray, List.getElem_cons_zero, List.getElem_cons_succ, List.setIfInBounds_toArray, List.set_cons_zero, List.set_cons_succ])
          refine wpAnyH_take (i := 1) (v := ?_) rfl (by kernel_rfl) (by kernel_rfl) (by kernel_rfl) (fun _ _ _ h => h) (Or.inl ⟨by rfl, ?_⟩) (by assumption) ?_
          rotate_left
          · (intro w hSw; (try dsimp only at hSw); go_simp; (try with_reducible rfl))
          (try simp only [Act.put, List.getElem_toArray, List.getElem_cons_zero, List.getElem_cons_succ, List.setIfInBounds_toArray, List.set_cons_zero, List.set_cons_succ])
          refine wpAnyH_take (i := 2) (v := .int .i64 yf) rfl (by kernel_rfl) (by kernel_rfl) (by kernel_rfl) (fun _ _ _ h => h) (Or.inl ⟨by rfl, fun w hSw => by have c := hSw.1.cv 1 (.int .i64 yf) rfl; go_simp⟩) (by assumption) ?_
          (try simp only [Act.put, List.getElem_toArray, List.getElem_cons_zero, List.getElem_cons_succ, List.setIfInBounds_toArray, List.set_cons_zero, List.set_cons_succ])
          refine wpAnyH_take (i := 3) (v := ?_) rfl (by kernel_rfl) (by kernel_rfl) (by kernel_rfl) (fun _ _ _ h => h) (Or.inl ⟨by rfl, ?_⟩) (by assumption) ?_
          rotate_left
          · (intro w hSw; (try dsimp only at hSw); go_simp; (try with_reducible rfl))
          (try simp only [Act.put, List.getElem_toArray, List.getElem_cons_zero, List.getElem_cons_succ, List.setIfInBounds_toArray, List.set_cons_zero, List.set_cons_succ])
          refine wpAnyH_take (i := 4) (v := ?_) rfl (by kernel_rfl) (by kernel_rfl) (by kernel_rfl) (fun _ _ _ h => h) (Or.inl ⟨by rfl, ?_⟩) (by assumption) ?_
          rotate_left
          · (intro w hSw; (try dsimp only at hSw); go_simp; (try with_reducible rfl))
          (try simp only [Act.put, List.getElem_toArray, List.getElem_cons_zero, List.getElem_cons_succ, List.setIfInBounds_toArray, List.set_cons_zero, List.set_cons_succ])
          refine wpAnyH_take (i := 5) (v := ?_) rfl (by kernel_rfl) (by kernel_rfl) (by kernel_rfl) (fun _ _ _ h => h) (Or.inl ⟨by rfl, ?_⟩) (by assumption) ?_
          rotate_left
          · (intro w hSw; (try dsimp only at hSw); go_simp; (try with_reducible rfl))
          (try simp only [Act.put, List.getElem_toArray, List.getElem_cons_zero, List.getElem_cons_succ, List.setIfInBounds_toArray, List.set_cons_zero, List.set_cons_succ])
          refine wpAnyH_take (i := 6) (v := .slice (some ⟨eb, eo, none⟩) ye.length yc) rfl (by kernel_rfl) (by kernel_rfl) (by kernel_rfl) (fun _ _ _ h => h) (Or.inl ⟨by rfl, fun w hSw => by have c := hSw.1.cv 2 (.slice (some ⟨eb, eo, none⟩) ye.length yc) rfl; go_simp⟩) (by assumption) ?_
          (try simp only [Act.put, List.getElem_toArray, List.getElem_cons_zero, List.getElem_cons_succ, List.setIfInBounds_toArray, List.set_cons_zero, List.set_cons_succ])
          refine wpAnyH_take (i := 7) (v := ?_) rfl (by kernel_rfl) (by kernel_rfl) (by kernel_rfl) (fun _ _ _ h => h) (Or.inl ⟨by rfl, ?_⟩) (by assumption) ?_
          rotate_left
          · (intro w hSw; (try dsimp only at hSw); go_simp; (try with_reducible rfl))
          (try simp only [Act.put, List.getElem_toArray, List.getElem_cons_zero, List.getElem_cons_succ, List.setIfInBounds_toArray, List.set_cons_zero, List.set_cons_succ])
          refine wpAnyH_take (i := 8) (v := ?_) rfl (by kernel_rfl) (by kernel_rfl) (by kernel_rfl) (fun _ _ _ h => h) (Or.inl ⟨by rfl, ?_⟩) (by assumption) ?_
          rotate_left
          · (intro w hSw; (try dsimp only at hSw); go_simp; (try with_reducible rfl))
          (try simp only [Act.put, List.getElem_toArray, List.getElem_cons_zero, List.getElem_cons_succ, List.setIfInBounds_toArray, List.set_cons_zero, List.set_cons_succ])
          refine wpAnyH_take (i := 9) (v := .int .i64 ev) rfl (by kernel_rfl) (by kernel_rfl) (by kernel_rfl) (fun _ _ _ h => h) (Or.inl ⟨by rfl, fun w hSw => by have c := hSw.2; go_simp⟩) (by assumption) ?_
          (try simp only [Act.put, List.getElem_toArray, List.getElem_cons_zero, List.getElem_cons_succ, List.setIfInBounds_toArray, List.set_cons_zero, List.set_cons_succ])
          refine wpAnyH_take (i := 10) (v := .agg (prC ⟨vid, ev⟩)) rfl (by kernel_rfl) (by kernel_rfl) (by kernel_rfl) (fun _ _ _ h => h) (Or.inl ⟨by rfl, fun w hSw => exec_build_rp (prC ⟨vid, ev⟩) rfl (by kernel_rfl)⟩) (by assumption) ?_
          (try simp only [Act.put, List.getElem_toArray, List.getElem_cons_zero, List.getElem_cons_succ, List.setIfInBounds_toArray, List.set_cons_zero, List.set_cons_succ])
          refine wpAnyH_ready (rs := [11]) (by kernel_rfl) (by simp) ?_
          refine AllReadyH.cons rfl (fun K hK => ?_) AllReadyH.nil
          simp only [List.getElem_toArray, List.getElem_cons_zero, List.getElem_cons_succ]
          rw [if_pos (by rfl)]
          refine slice_rp ⟨vid, ev⟩ rfl rfl (fun w6 HS6 b6 s6 => ?_)
          have b6' := (Below.refl wr.heap.size wr).drew.trans b6
          have HO6 := HO.kept b6'
          have HA6 := HA.kept b6'
          have KX6 : w6.cell? ⟨eb, eo + j, none⟩ = some (.int .i64 ev) := (b6'.cell (p := ⟨eb, eo + j, none⟩) hel).trans KX
          refine hK.out _ _ ?_ (fun hHeld => ?_)
          · exact ⟨HA6, KX6⟩
          clear hK K
          (try simp only [Act.put, List.getElem_toArray, List.getElem_cons_zero, List.getElem_cons_succ, List.setIfInBounds_toArray, List.set_cons_zero, List.set_cons_succ])
          refine wpAnyH_ready (rs := [12]) (by kernel_rfl) (by simp) ?_
          refine AllReadyH.cons rfl (fun K hK => ?_) AllReadyH.nil
          simp only [List.getElem_toArray, List.getElem_cons_zero, List.getElem_cons_succ]
          rw [if_pos (by rfl)]
          refine append_rp (v := v) ⟨vid, ev⟩ rfl rfl rfl HO6 HS6 (by have := hln.out; omega) (Nat.le_trans hbw b6'.size) (fun v7 w7 HO7 b7 g7 => ?_)
          have HA7 := blk_rp HO6 g7 HA6 (by decide)
          have KX7 : w7.cell? ⟨eb, eo + j, none⟩ = some (.int .i64 ev) := (b7.cell (p := ⟨eb, eo + j, none⟩) heb).trans KX6
          refine hK.out _ _ ?_ (fun hHeld => ?_)
          · exact ⟨HA7, KX7⟩
          clear hK K
          (try simp only [Act.put, List.getElem_toArray, List.getElem_cons_zero, List.getElem_cons_succ, List.setIfInBounds_toArray, List.set_cons_zero, List.set_cons_succ])
          refine wpAnyH_take (i := 13) (v := ?_) rfl (by kernel_rfl) (by kernel_rfl) (by kernel_rfl) (fun _ _ _ h => h) (Or.inl ⟨by rfl, ?_⟩) (by assumption) ?_
          rotate_left
          · (intro w hSw; (try dsimp only at hSw); go_simp; (try with_reducible rfl))
          (try simp only [Act.put, List.getElem_toArray, List.getElem_cons_zero, List.getElem_cons_succ, List.setIfInBounds_toArray, List.set_cons_zero, List.set_cons_succ])
          refine wpAnyH_done (by kernel_rfl) ?_ _
          refine NoPanic.normal ?_
          have B7 := (Bj.trans (b6'.mono hbw)).trans b7
          go_wp2_with fail
          go_roundw
          case rel =>
            refine ⟨j + 1, _, rfl, by omega, by go_num, ?_, HA7, B7⟩
            rw [hsn2.out]
            exact HO7
          case measure => simp [intOf]; omega
        · obtain rfl : j = ye.length := by omega
          have p2 : decide ((ye.length : Int) < (ye.length : Int)) = false := decide_eq_false (by omega)
          rw [List.take_length, ← HS.out] at HO
          clear c1
          go_wp2_with fail
          go_roundw
          case rel => exact ⟨k + 1, by omega, by go_num, HO, Bj⟩
          case measure => simp [intOf]; omega
    · obtain rfl : k = hs.length := by omega
      have q2 : decide ((hs.length : Int) < (hs.length : Int)) = false := decide_eq_false (by omega)
      rw [List.take_length] at HO
      go_wp2
      go_ret
      exact ⟨_, rfl, HO, Bk⟩

end Go.Proofs.YtdjljnpbnhampaaDoor

namespace Go.Proofs.YtdjljnpbnhampaaDoor
open Go.RowKit
attribute [local go_sem ↓] Go.wp_at_zero Go.wp_at_succ
set_option linter.unusedSimpArgs false
set_option linter.unusedVariables false
set_option maxRecDepth 100000

set_option maxHeartbeats 1600000 in
theorem much_val (a : Option Addr) (c : Nat) (hs : List MvH) (w : World) (h : MvsIn w a hs) (hm : hs.length + (eachL (xs hs)).length ≤ 4611686018427387904) :
    Calls Tryd.prog 13 #[.slice a hs.length c] w fun e w' => e = .returned (.bool (decide (1500 < hs.length + (eachL (xs hs)).length))) ∧ Below w.heap.size w w' := by
  have k1 : hs.length ≤ 9223372036854775807 := by omega
  have HLE := Lib.hid (eachL_le hs)
  have HMX : Hid (hs.length + (eachL (xs hs)).length ≤ 4611686018427387904) := hm
  clear hm
  go_enter Tryd.func13, Tryd.ntmps13
  go_wp2_with fail
  go_loopw [3, 10] (fun v i wr => ∃ k : Nat, k ≤ hs.length ∧ i = .int .i64 k ∧ v = .int .i64 ((hs.length + (eachL (xs (hs.take k))).length : Nat) : Int) ∧ Below w.heap.size w wr) (fun _ i _ => hs.length - (intOf i).toNat)
  case atStart => exact ⟨0, by omega, rfl, by simp [xs, eachL], Below.refl _ _⟩
  case round =>
    obtain ⟨k, hk, rfl, rfl, Bk⟩ := hrel
    by_cases hlt : k < hs.length
    · have hI := h.below Bk
      obtain ⟨b, lo, rfl, hbl, hat⟩ := hI.row.at hlt
      have q1 : (k : Int) < (hs.length : Int) := by omega
      have q2 : decide ((k : Int) < (hs.length : Int)) = true := decide_eq_true q1
      have q3 : (0 : Int) ≤ (k : Int) := by omega
      have q4 : IntKind.i64.wrap ((k : Int) + 1) = (k : Int) + 1 := by rw [IntKind.wrap_i64] <;> omega
      have HK := hat k hlt
      have HS : Hid ((eachL (xs (hs.take (k + 1)))).length = (eachL (xs (hs.take k))).length + hs[k].x.ev.length) := by
        show _ = _
        rw [eachL_take hs k hlt, List.length_append, prsF_len]
      have HL2 := Lib.hid (HLE.out (k + 1))
      have hsw := Bk.size
      generalize hs[k] = y at *
      clear hat hI
      have HA4 := Blk.new wr 92 (mvC zMvH)
      have b4 : Below wr.heap.size wr (wr.alloc (.cells (mvC zMvH) 92)) := (Below.refl _ _).alloc (Nat.le_refl _) _
      go_upto_region 5 with (first
        | (refine load_cells (B := b) (k := lo + k * 3) 92 (mvC y) (by rfl) rfl rfl HK (by kernel_rfl) (by kernel_rfl) ?_)
        | (refine alloc_blk 92 (mvC zMvH) (by rfl) rfl Tryd.mhZero ?_)
        | (refine store_blk (k := 0) 92 (.agg (mvC y)) (mvC y) (by rfl) rfl rfl rfl HA4 (by kernel_rfl) (show (3 : Nat) ≤ 3 from Nat.le_refl 3) (by rfl) (st_whole _ _ rfl) ?_; intro w5 HA5 b5 g5))
      have B5 := Bk.trans ((b4.trans b5).mono hsw)
      clear HA4 b4 b5 g5 HK Bk
      generalize wr.heap.size = G1 at *
      have c2 := HA5.cv 2 (.slice y.a y.x.ev.length y.c) rfl
      obtain ⟨L, hL⟩ : ∃ L, y.x.ev.length = L := ⟨_, rfl⟩
      rw [hL] at c2 HS
      clear hL HA5
      obtain ⟨M, hM⟩ : ∃ M, hs.length + (eachL (xs (hs.take k))).length = M := ⟨_, rfl⟩
      have HM : Hid (hs.length + (eachL (xs (hs.take (k + 1)))).length = M + L) := by
        show _ = _
        rw [HS.out, ← hM]
        omega
      have q5 : IntKind.i64.wrap ((M : Int) + (L : Int)) = ((M + L : Nat) : Int) := by
        have e1 := HM.out
        have e2 := HL2.out
        have e3 := HMX.out
        rw [IntKind.wrap_i64] <;> omega
      rw [hM]
      clear hM
      go_wp2
      go_roundw
      case rel => exact ⟨k + 1, by omega, by go_num, by rw [HM.out]; first | rfl | exact congrArg _ q5, B5⟩
      case measure => simp [intOf]; omega
    · obtain rfl : k = hs.length := by omega
      have q2 : decide ((hs.length : Int) < (hs.length : Int)) = false := decide_eq_false (by omega)
      rw [List.take_length]
      obtain ⟨M, hM⟩ : ∃ M, hs.length + (eachL (xs hs)).length = M := ⟨_, rfl⟩
      rw [hM]
      have hd : decide ((1500 : Int) < (M : Int)) = decide (1500 < M) := by
        by_cases hq : 1500 < M
        · rw [decide_eq_true hq, decide_eq_true (by omega)]
        · rw [decide_eq_false hq, decide_eq_false (by omega)]
      go_wp2
      go_ret
      exact ⟨by rw [hM, ← hd]; rfl, Bk⟩


end Go.Proofs.YtdjljnpbnhampaaDoor

namespace Go.Proofs.YtdjljnpbnhampaaDoor

/-- A hexadecimal digit. -/
def hexc (n : Nat) : UInt8 := if n < 10 then UInt8.ofNat (48 + n) else UInt8.ofNat (87 + n)

/-- The two digits of a byte. -/
def hex2 (n : Nat) : List UInt8 := [hexc (n / 16), hexc (n % 16)]

/-- The text of the first bytes of an address, up to a place. -/
def addrTo (x : Nat → Nat) : Nat → List UInt8
  | 0 => []
  | k + 1 => addrTo x k ++ ((if k = 0 then [] else [58]) ++ hex2 (x k))

/-- The text of a list of bytes, a colon between each two. -/
def txt : List Nat → List UInt8
  | [] => []
  | [a] => hex2 a
  | a :: b :: r => hexc (a / 16) :: hexc (a % 16) :: 58 :: txt (b :: r)

/-- The six bytes of an address. -/
def six (x : Nat → Nat) : List Nat := [x 0, x 1, x 2, x 3, x 4, x 5]

/-- The text of an address. -/
def addrL (x : Nat → Nat) : List UInt8 := addrTo x 6

theorem addrL_txt (x : Nat → Nat) : addrL x = txt (six x) := by simp [addrL, addrTo, txt, six, hex2]

theorem addrL_length (x : Nat → Nat) : (addrL x).length = 17 := by simp [addrL, addrTo, hex2]

theorem hexc_inj : ∀ a, a < 16 → ∀ b, b < 16 → hexc a = hexc b → a = b := by decide

theorem hexc_lt : ∀ a, a < 16 → ∀ b, b < 16 → (decide (hexc a < hexc b) = decide (a < b)) := by decide

theorem hexc_beq : ∀ a, a < 16 → ∀ b, b < 16 → ((hexc a == hexc b) = decide (a = b)) := by decide

theorem txt_inj : ∀ (u v : List Nat), u.length = v.length → (∀ a ∈ u, a < 256) → (∀ a ∈ v, a < 256) → txt u = txt v → u = v
  | [], [], _, _, _, _ => rfl
  | [], _ :: _, h, _, _, _ => by simp at h
  | _ :: _, [], h, _, _, _ => by simp at h
  | [a], [b], _, hu, hv, h => by
    have ha := hu a (by simp)
    have hb := hv b (by simp)
    simp only [txt, hex2, List.cons.injEq, and_true] at h
    have h1 := hexc_inj _ (by omega) _ (by omega) h.1
    have h2 := hexc_inj _ (by omega) _ (by omega) h.2
    congr 1
    omega
  | [_], _ :: _ :: _, h, _, _, _ => by simp at h
  | _ :: _ :: _, [_], h, _, _, _ => by simp at h
  | a :: a' :: u, b :: b' :: v, hl, hu, hv, h => by
    have ha := hu a (by simp)
    have hb := hv b (by simp)
    simp only [txt, List.cons.injEq, true_and] at h
    have h1 := hexc_inj _ (by omega) _ (by omega) h.1
    have h2 := hexc_inj _ (by omega) _ (by omega) h.2.1
    have h3 := txt_inj (a' :: u) (b' :: v) (by simpa using hl) (fun c hc => hu c (List.mem_cons_of_mem _ hc)) (fun c hc => hv c (List.mem_cons_of_mem _ hc)) h.2.2
    rw [h3]
    congr 1
    omega

theorem byte_lt (a b : Nat) (ha : a < 256) (hb : b < 256) : decide (UInt8.ofNat a < UInt8.ofNat b) = decide (a < b) := by
  simp [UInt8.lt_iff_toNat_lt, Nat.mod_eq_of_lt ha, Nat.mod_eq_of_lt hb]

theorem byte_beq (a b : Nat) (ha : a < 256) (hb : b < 256) : (UInt8.ofNat a == UInt8.ofNat b) = decide (a = b) := by
  rw [Bool.eq_iff_iff]
  simp only [beq_iff_eq, decide_eq_true_eq]
  constructor
  · intro h
    have := congrArg UInt8.toNat h
    simpa [Nat.mod_eq_of_lt ha, Nat.mod_eq_of_lt hb] using this
  · rintro rfl; rfl

/-- Texts of bytes are in the order of the bytes. -/
theorem txt_less : ∀ (u v : List Nat), u.length = v.length → (∀ a ∈ u, a < 256) → (∀ a ∈ v, a < 256) → Op.bytesLess (txt u) (txt v) = Op.bytesLess (u.map UInt8.ofNat) (v.map UInt8.ofNat)
  | [], [], _, _, _ => rfl
  | [], _ :: _, h, _, _ => by simp at h
  | _ :: _, [], h, _, _ => by simp at h
  | [a], [b], _, hu, hv => by
    have ha := hu a (by simp)
    have hb := hv b (by simp)
    simp only [txt, hex2, List.map, Op.bytesLess, Bool.and_false, Bool.or_false, hexc_lt _ (show a / 16 < 16 by omega) _ (show b / 16 < 16 by omega), hexc_lt _ (show a % 16 < 16 by omega) _ (show b % 16 < 16 by omega),
      hexc_beq _ (show a / 16 < 16 by omega) _ (show b / 16 < 16 by omega), byte_lt a b ha hb]
    rw [Bool.eq_iff_iff]
    simp
    omega
  | [_], _ :: _ :: _, h, _, _ => by simp at h
  | _ :: _ :: _, [_], h, _, _ => by simp at h
  | a :: a' :: u, b :: b' :: v, hl, hu, hv => by
    have ha := hu a (by simp)
    have hb := hv b (by simp)
    have h3 := txt_less (a' :: u) (b' :: v) (by simpa using hl) (fun c hc => hu c (List.mem_cons_of_mem _ hc)) (fun c hc => hv c (List.mem_cons_of_mem _ hc))
    simp only [txt, List.map] at h3 ⊢
    rw [Op.bytesLess, Op.bytesLess, Op.bytesLess, Op.bytesLess, h3, hexc_lt _ (show a / 16 < 16 by omega) _ (show b / 16 < 16 by omega), hexc_lt _ (show a % 16 < 16 by omega) _ (show b % 16 < 16 by omega),
      hexc_beq _ (show a / 16 < 16 by omega) _ (show b / 16 < 16 by omega), hexc_beq _ (show a % 16 < 16 by omega) _ (show b % 16 < 16 by omega), byte_lt a b ha hb, byte_beq a b ha hb]
    generalize Op.bytesLess (UInt8.ofNat a' :: _) _ = q
    cases q <;> rw [Bool.eq_iff_iff] <;> simp <;> omega

theorem six_lt {x : Nat → Nat} (h : ∀ i, x i < 256) : ∀ a ∈ six x, a < 256 := by
  intro a ha
  simp only [six, List.mem_cons, List.not_mem_nil, or_false] at ha
  rcases ha with rfl | rfl | rfl | rfl | rfl | rfl <;> exact h _

theorem addrL_inj {x y : Nat → Nat} (hx : ∀ i, x i < 256) (hy : ∀ i, y i < 256) (h : addrL x = addrL y) : six x = six y :=
  txt_inj _ _ rfl (six_lt hx) (six_lt hy) (by rw [← addrL_txt, ← addrL_txt, h])

theorem addrL_less {x y : Nat → Nat} (hx : ∀ i, x i < 256) (hy : ∀ i, y i < 256) : Op.bytesLess (addrL x) (addrL y) = Op.bytesLess ((six x).map UInt8.ofNat) ((six y).map UInt8.ofNat) := by
  rw [addrL_txt, addrL_txt]
  exact txt_less _ _ rfl (six_lt hx) (six_lt hy)

/-- Below zero is how 'compareBytes' says that the first list is less. -/
theorem compare_less : ∀ (a b : List UInt8), decide (Lib.compareBytes a b < 0) = Op.bytesLess a b
  | [], [] => by simp [Lib.compareBytes, Op.bytesLess]
  | [], _ :: _ => by simp [Lib.compareBytes, Op.bytesLess]
  | _ :: _, [] => by simp [Lib.compareBytes, Op.bytesLess]
  | a :: x, b :: y => by
    have ih := compare_less x y
    unfold Lib.compareBytes Op.bytesLess
    by_cases h1 : a < b
    · simp [h1]
    · by_cases h2 : b < a
      · have h3 : ¬ a = b := by rintro rfl; exact h1 h2
        simp [h1, h2, h3]
      · have h3 : a = b := by
          rw [UInt8.lt_iff_toNat_lt] at h1 h2
          exact UInt8.toNat_inj.1 (by omega)
        subst h3
        simp [h1, ih]

/-- The order of lists of one length: just one of less, equal, greater. -/
theorem less_irrefl : ∀ a : List UInt8, Op.bytesLess a a = false
  | [] => rfl
  | a :: x => by simp [Op.bytesLess, less_irrefl x, UInt8.lt_irrefl]

theorem less_asymm : ∀ a b : List UInt8, Op.bytesLess a b = true → Op.bytesLess b a = false
  | _, [], h => by simp [Op.bytesLess] at h
  | [], _ :: _, _ => by simp [Op.bytesLess]
  | a :: x, b :: y, h => by
    have ih := less_asymm x y
    simp only [Op.bytesLess, Bool.or_eq_true, decide_eq_true_eq, Bool.and_eq_true, beq_iff_eq, Bool.or_eq_false_iff, decide_eq_false_iff_not, Bool.and_eq_false_iff] at h ⊢
    rcases h with h | ⟨rfl, h⟩
    · refine ⟨UInt8.lt_asymm h, Or.inl ?_⟩
      rw [beq_eq_false_iff_ne]; rintro rfl; exact UInt8.lt_irrefl _ h
    · exact ⟨UInt8.lt_irrefl _, Or.inr (ih h)⟩

theorem less_total : ∀ a b : List UInt8, a.length = b.length → Op.bytesLess a b = false → Op.bytesLess b a = false → a = b
  | [], [], _, _, _ => rfl
  | _ :: _, [], h, _, _ => by simp at h
  | [], _ :: _, h, _, _ => by simp at h
  | a :: x, b :: y, hl, h1, h2 => by
    simp only [Op.bytesLess, Bool.or_eq_false_iff, decide_eq_false_iff_not, Bool.and_eq_false_iff, beq_eq_false_iff_ne] at h1 h2
    have e : a = b := by
      have q1 := h1.1; have q2 := h2.1
      rw [UInt8.lt_iff_toNat_lt] at q1 q2
      exact UInt8.toNat_inj.1 (by omega)
    subst e
    rw [less_total x y (by simpa using hl) (h1.2.resolve_left fun q => q rfl) (h2.2.resolve_left fun q => q rfl)]

theorem less_trans : ∀ a b c : List UInt8, Op.bytesLess a b = true → Op.bytesLess b c = true → Op.bytesLess a c = true
  | _, [], _, h, _ => by simp [Op.bytesLess] at h
  | _, _ :: _, [], _, h => by simp [Op.bytesLess] at h
  | [], _ :: _, _ :: _, _, _ => by simp [Op.bytesLess]
  | a :: x, b :: y, c :: z, h1, h2 => by
    have ih := less_trans x y z
    simp only [Op.bytesLess, Bool.or_eq_true, decide_eq_true_eq, Bool.and_eq_true, beq_iff_eq] at h1 h2 ⊢
    rcases h1 with h1 | ⟨rfl, h1⟩
    · rcases h2 with h2 | ⟨rfl, h2⟩
      · exact Or.inl (UInt8.lt_trans h1 h2)
      · exact Or.inl h1
    · rcases h2 with h2 | ⟨rfl, h2⟩
      · exact Or.inl h2
      · exact Or.inr ⟨rfl, ih h1 h2⟩

end Go.Proofs.YtdjljnpbnhampaaDoor

namespace Go.Proofs.YtdjljnpbnhampaaDoor
set_option linter.unusedVariables false

/-- A bridge's name. -/
structure Br where
  p : Int
  e : Int
  a : Nat → Nat

/-- A vector. -/
structure Ve where
  root : Br
  cost : Int
  sender : Br
  pp : Int
  pn : Int
  ap : Int
  an : Int

def sixI (x : Nat → Nat) : List Int := [(x 0 : Int), (x 1 : Int), (x 2 : Int), (x 3 : Int), (x 4 : Int), (x 5 : Int)]

def numsB (b : Br) : List Int := [b.p, b.e] ++ sixI b.a

def lineV (v : Ve) : List Int := numsB v.root ++ ([v.cost] ++ (numsB v.sender ++ [v.pp, v.pn, v.ap, v.an]))

theorem numsB_len (b : Br) : (numsB b).length = 8 := rfl

theorem lineV_len (v : Ve) : (lineV v).length = 21 := rfl

/-- How two numbers lie. -/
def cmpI (x y : Int) : Int := if x < y then -1 else if y < x then 1 else 0

/-- How two lists lie: by the first number that differs. -/
def cmpL : List Int → List Int → Int
  | a :: l, b :: m => if a < b then -1 else if b < a then 1 else cmpL l m
  | _, _ => 0

/-- The first number that is not 0. -/
def orI : List Int → Int
  | [] => 0
  | a :: l => if a = 0 then orI l else a

theorem cmpL_one (x y : Int) : cmpL [x] [y] = cmpI x y := by simp [cmpL, cmpI]

theorem orI_one (x : Int) : orI [x] = x := by unfold orI; split <;> simp_all [orI]

theorem cmpI_zero {x y : Int} : cmpI x y = 0 ↔ x = y := by
  unfold cmpI
  repeat' split
  all_goals omega

theorem cmpL_append : ∀ (l m l' m' : List Int), l.length = m.length → cmpL (l ++ l') (m ++ m') = if cmpL l m = 0 then cmpL l' m' else cmpL l m
  | [], [], l', m', _ => by simp [cmpL]
  | [], _ :: _, _, _, h => by simp at h
  | _ :: _, [], _, _, h => by simp at h
  | a :: l, b :: m, l', m', h => by
    have ih := cmpL_append l m l' m' (by simpa using h)
    simp only [List.cons_append, cmpL]
    split
    · simp
    · split
      · simp
      · exact ih

theorem cmpL_self : ∀ l : List Int, cmpL l l = 0
  | [] => rfl
  | a :: l => by simp [cmpL, cmpL_self l]

theorem cmpL_eq : ∀ l m : List Int, l.length = m.length → cmpL l m = 0 → l = m
  | [], [], _, _ => rfl
  | [], _ :: _, h, _ => by simp at h
  | _ :: _, [], h, _ => by simp at h
  | a :: l, b :: m, h, h0 => by
    simp only [cmpL] at h0
    split at h0
    · omega
    · split at h0
      · omega
      · rw [cmpL_eq l m (by simpa using h) h0, show a = b by omega]

theorem cmpL_iff {l m : List Int} (h : l.length = m.length) : cmpL l m = 0 ↔ l = m := ⟨cmpL_eq l m h, by rintro rfl; exact cmpL_self _⟩

theorem cmpL_swap : ∀ l m : List Int, cmpL m l = -cmpL l m
  | [], [] => rfl
  | [], _ :: _ => rfl
  | _ :: _, [] => rfl
  | a :: l, b :: m => by
    have ih := cmpL_swap l m
    simp only [cmpL]
    repeat' split
    all_goals omega

theorem cmpL_trans : ∀ l m k : List Int, l.length = m.length → m.length = k.length → cmpL l m < 0 → cmpL m k < 0 → cmpL l k < 0
  | [], [], [], _, _, h, _ => by simp [cmpL] at h
  | [], _ :: _, _, h, _, _, _ => by simp at h
  | _ :: _, [], _, h, _, _, _ => by simp at h
  | [], [], _ :: _, _, h, _, _ => by simp at h
  | _ :: _, _ :: _, [], _, h, _, _ => by simp at h
  | a :: l, b :: m, c :: k, h, h', h1, h2 => by
    have ih := cmpL_trans l m k (by simpa using h) (by simpa using h')
    simp only [cmpL] at h1 h2 ⊢
    by_cases q1 : a < b
    · by_cases q2 : b < c
      · rw [if_pos (by omega)]; decide
      · by_cases q3 : c < b
        · rw [if_neg q2, if_pos q3] at h2; omega
        · rw [if_pos (by omega)]; decide
    · by_cases q4 : b < a
      · rw [if_neg q1, if_pos q4] at h1; omega
      · rw [if_neg q1, if_neg q4] at h1
        obtain rfl : a = b := by omega
        by_cases q2 : a < c
        · rw [if_pos q2]; decide
        · rw [if_neg q2] at h2 ⊢
          by_cases q3 : c < a
          · rw [if_pos q3] at h2; omega
          · rw [if_neg q3] at h2 ⊢
            exact ih h1 h2

theorem cmpL_range : ∀ l m : List Int, cmpL l m = -1 ∨ cmpL l m = 0 ∨ cmpL l m = 1
  | [], [] => Or.inr (Or.inl rfl)
  | [], _ :: _ => Or.inr (Or.inl rfl)
  | _ :: _, [] => Or.inr (Or.inl rfl)
  | a :: l, b :: m => by
    have ih := cmpL_range l m
    simp only [cmpL]
    repeat' split
    all_goals omega

/-- A bridge's name is less; a vector is better. -/
def lessB (a b : Br) : Bool := decide (cmpL (numsB a) (numsB b) < 0)

def bettV (a b : Ve) : Bool := decide (cmpL (lineV a) (lineV b) < 0)

theorem bettV_irr (a : Ve) : bettV a a = false := by simp [bettV, cmpL_self]

theorem bettV_asym {a b : Ve} (h : bettV a b = true) : bettV b a = false := by
  have := cmpL_swap (lineV a) (lineV b)
  simp only [bettV, decide_eq_true_eq, decide_eq_false_iff_not] at h ⊢
  omega

theorem bettV_trans {a b c : Ve} (h : bettV a b = true) (h' : bettV b c = true) : bettV a c = true := by
  simp only [bettV, decide_eq_true_eq] at h h' ⊢
  exact cmpL_trans (lineV a) (lineV b) (lineV c) rfl rfl h h'

theorem bettV_tot {a b : Ve} (h : lineV a ≠ lineV b) : bettV a b = true ∨ bettV b a = true := by
  have h1 := cmpL_swap (lineV a) (lineV b)
  have h2 : cmpL (lineV a) (lineV b) ≠ 0 := fun e => h (cmpL_eq _ _ rfl e)
  simp only [bettV, decide_eq_true_eq]
  omega

/-- Not worse, over a third. -/
theorem bettV_neg {a b c : Ve} (h : bettV b a = false) (h' : bettV c b = false) : bettV c a = false := by
  cases hc : bettV c a with
  | false => rfl
  | true =>
    by_cases e : lineV a = lineV b
    · simp only [bettV] at hc h'
      rw [e] at hc
      rw [hc] at h'; cases h'
    · rcases bettV_tot e with q | q
      · rw [bettV_trans hc q] at h'; cases h'
      · rw [q] at h; cases h

/-- Which of a list is best. -/
def BestAt (l : List Ve) (i : Int) : Prop := (l = [] ∧ i = -1) ∨ ∃ k, ∃ hk : k < l.length, i = (k : Int) ∧ (∀ j (hj : j < l.length), j < k → bettV l[k] l[j] = true) ∧ ∀ j (hj : j < l.length), bettV l[j] l[k] = false

theorem BestAt.one {l : List Ve} {i j : Int} (h : BestAt l i) (h' : BestAt l j) : i = j := by
  rcases h with ⟨rfl, rfl⟩ | ⟨k, hk, rfl, h1, h2⟩
  · rcases h' with ⟨_, rfl⟩ | ⟨m, hm, _⟩
    · rfl
    · simp at hm
  · rcases h' with ⟨rfl, _⟩ | ⟨m, hm, rfl, h3, h4⟩
    · simp at hk
    · rcases Nat.lt_trichotomy k m with q | q | q
      · have := h3 k hk q
        rw [h2 m hm] at this; cases this
      · rw [q]
      · have := h1 m hm q
        rw [h4 k hk] at this; cases this

theorem bytesLess_cmp : ∀ (u v : List Nat), u.length = v.length → (∀ a ∈ u, a < 256) → (∀ a ∈ v, a < 256) → Op.bytesLess (u.map UInt8.ofNat) (v.map UInt8.ofNat) = decide (cmpL (u.map Int.ofNat) (v.map Int.ofNat) < 0)
  | [], [], _, _, _ => by simp [cmpL, Op.bytesLess]
  | [], _ :: _, h, _, _ => by simp at h
  | _ :: _, [], h, _, _ => by simp at h
  | a :: u, b :: v, h, hu, hv => by
    have ih := bytesLess_cmp u v (by simpa using h) (fun c hc => hu c (List.mem_cons_of_mem _ hc)) (fun c hc => hv c (List.mem_cons_of_mem _ hc))
    have ha := hu a (by simp)
    have hb := hv b (by simp)
    simp only [List.map_cons, Op.bytesLess, cmpL, byte_lt a b ha hb, byte_beq a b ha hb, ih]
    by_cases h1 : a < b
    · simp [h1]
    · by_cases h2 : b < a
      · have : ¬ a = b := by omega
        simp [h1, h2, this]
      · have : a = b := by omega
        subst this
        simp

theorem sixI_map (x : Nat → Nat) : sixI x = (six x).map Int.ofNat := rfl

theorem six_cmp {x y : Nat → Nat} (hx : ∀ i, x i < 256) (hy : ∀ i, y i < 256) : Op.bytesLess ((six x).map UInt8.ofNat) ((six y).map UInt8.ofNat) = decide (cmpL (sixI x) (sixI y) < 0) := by
  rw [sixI_map, sixI_map]
  exact bytesLess_cmp _ _ rfl (six_lt hx) (six_lt hy)

theorem sixI_inj {x y : Nat → Nat} (h : sixI x = sixI y) : six x = six y := by
  simp only [sixI, six, List.cons.injEq, Int.natCast_inj, and_true] at h ⊢
  exact h

/-- The order is on the parts. -/
theorem lessB_parts (a b : Br) : cmpL (numsB a) (numsB b) = orI [cmpI a.p b.p, cmpI a.e b.e, cmpL (sixI a.a) (sixI b.a)] := by
  unfold numsB
  rw [cmpL_append [a.p, a.e] [b.p, b.e] _ _ rfl]
  simp only [cmpL, cmpI, orI]
  by_cases h1 : a.p < b.p
  · simp [h1]
  · by_cases h2 : b.p < a.p
    · simp [h1, h2]
    · by_cases h3 : a.e < b.e
      · simp [h1, h2, h3]
      · by_cases h4 : b.e < a.e
        · simp [h1, h2, h3, h4]
        · by_cases h5 : cmpL (sixI a.a) (sixI b.a) = 0 <;> simp [h1, h2, h3, h4, h5]

theorem orI_cons (x : Int) (l : List Int) : orI (x :: l) = if x = 0 then orI l else x := rfl

theorem cmpL_two (x y u v : Int) : cmpL [x, y] [u, v] = orI [cmpI x u, cmpI y v] := by
  simp only [cmpL, cmpI, orI]
  by_cases h1 : x < u
  · simp [h1]
  · by_cases h2 : u < x
    · simp [h1, h2]
    · by_cases h3 : y < v
      · simp [h1, h2, h3]
      · by_cases h4 : v < y <;> simp [h1, h2, h3, h4]

theorem bettV_parts (a b : Ve) : cmpL (lineV a) (lineV b) = orI [cmpL (numsB a.root) (numsB b.root), cmpI a.cost b.cost, cmpL (numsB a.sender) (numsB b.sender), orI [cmpI a.pp b.pp, cmpI a.pn b.pn], orI [cmpI a.ap b.ap, cmpI a.an b.an]] := by
  unfold lineV
  rw [cmpL_append (numsB a.root) (numsB b.root) _ _ rfl, cmpL_append [a.cost] [b.cost] _ _ rfl, cmpL_append (numsB a.sender) (numsB b.sender) _ _ rfl, ← cmpL_two, ← cmpL_two, cmpL_one]
  have h4 := cmpL_append [a.pp, a.pn] [b.pp, b.pn] [a.ap, a.an] [b.ap, b.an] rfl
  have h4' : cmpL [a.pp, a.pn, a.ap, a.an] [b.pp, b.pn, b.ap, b.an] = if cmpL [a.pp, a.pn] [b.pp, b.pn] = 0 then cmpL [a.ap, a.an] [b.ap, b.an] else cmpL [a.pp, a.pn] [b.pp, b.pn] := h4
  rw [h4', orI_cons, orI_cons, orI_cons, orI_cons, orI_one]

end Go.Proofs.YtdjljnpbnhampaaDoor

namespace Go.Proofs.YtdjljnpbnhampaaDoor
set_option linter.unusedVariables false

/-- One of the steps from 0 on. -/
def prB (x top step : Int) : Bool := decide (0 ≤ x) && (decide (x ≤ top) && decide (x % step = 0))

theorem prB_all {x top step : Int} (h : prB x top step = true) : 0 ≤ x ∧ x ≤ top ∧ x % step = 0 := by
  simpa only [prB, Bool.and_eq_true, decide_eq_true_eq] using h

/-- A name that may be. -/
def okB (b : Br) : Bool := prB b.p 61440 4096 && (decide (0 ≤ b.e) && decide (b.e ≤ 4095))

theorem okB_all {b : Br} (h : okB b = true) : 0 ≤ b.p ∧ b.p ≤ 61440 ∧ b.p % 4096 = 0 ∧ 0 ≤ b.e ∧ b.e ≤ 4095 := by
  simp only [okB, prB, Bool.and_eq_true, decide_eq_true_eq] at h
  obtain ⟨⟨h0, h1, h2⟩, h3, h4⟩ := h
  exact ⟨h0, h1, h2, h3, h4⟩

/-- A port's name that may be. -/
def okPt (p n : Int) : Bool := prB p 240 16 && (decide (1 ≤ n) && decide (n ≤ 4095))

theorem okPt_all {p n : Int} (h : okPt p n = true) : 0 ≤ p ∧ p ≤ 240 ∧ p % 16 = 0 ∧ 1 ≤ n ∧ n ≤ 4095 := by
  simp only [okPt, prB, Bool.and_eq_true, decide_eq_true_eq] at h
  obtain ⟨⟨h0, h1, h2⟩, h3, h4⟩ := h
  exact ⟨h0, h1, h2, h3, h4⟩

/-- Its bytes are bytes. -/
def byB (b : Br) : Prop := ∀ i, b.a i < 256


end Go.Proofs.YtdjljnpbnhampaaDoor

namespace Go.Proofs.YtdjljnpbnhampaaDoor
set_option linter.unusedVariables false

/-- The eight bytes of a name. -/
def packL (b : Br) : List UInt8 := putL (b.p + b.e).toNat 2 ++ (six b.a).map UInt8.ofNat

theorem packL_len (b : Br) : (packL b).length = 8 := by simp [packL, putL_length, six]

theorem bytesLess_append : ∀ (p q p' q' : List UInt8), p.length = p'.length → Op.bytesLess (p ++ q) (p' ++ q') = (Op.bytesLess p p' || (p == p') && Op.bytesLess q q')
  | [], q, [], q', _ => by simp [Op.bytesLess]
  | [], _, _ :: _, _, h => by simp at h
  | _ :: _, _, [], _, h => by simp at h
  | a :: p, q, b :: p', q', h => by
    have ih := bytesLess_append p q p' q' (by simpa using h)
    simp only [List.cons_append, Op.bytesLess, ih]
    by_cases e : a = b
    · subst e
      simp
    · have e' : (a == b) = false := by simpa using e
      simp [e']

theorem packL_less {a b : Br} (ha : okB a = true) (hb : okB b = true) (xa : byB a) (xb : byB b) : Op.bytesLess (packL a) (packL b) = lessB a b := by
  obtain ⟨p0, p1, pm, e0, e1⟩ := okB_all ha
  obtain ⟨q0, q1, qm, f0, f1⟩ := okB_all hb
  obtain ⟨X, hX⟩ := Int.eq_ofNat_of_zero_le (show 0 ≤ a.p + a.e by omega)
  obtain ⟨Y, hY⟩ := Int.eq_ofNat_of_zero_le (show 0 ≤ b.p + b.e by omega)
  have hX' : X < 256 ^ 2 := by omega
  have hY' : Y < 256 ^ 2 := by omega
  unfold packL lessB
  rw [bytesLess_append _ _ _ _ (by simp [putL_length]), six_cmp xa xb, hX, hY, Int.toNat_natCast, Int.toNat_natCast, less_putL_fits X Y 2 hX' hY']
  have hp : ((putL X 2 == putL Y 2) : Bool) = decide (X = Y) := by
    rw [Bool.eq_iff_iff]
    simp only [beq_iff_eq, decide_eq_true_eq]
    exact ⟨fun h => putL_inj X Y 2 hX' hY' h, by rintro rfl; rfl⟩
  rw [hp]
  unfold numsB
  rw [cmpL_append [a.p, a.e] [b.p, b.e] _ _ rfl]
  simp only [cmpL]
  by_cases h1 : X < Y
  · have : a.p < b.p ∨ (a.p = b.p ∧ a.e < b.e) := by omega
    rcases this with q | ⟨q, r⟩
    · simp [h1, q]
    · simp [h1, q, r]
  · by_cases h2 : Y < X
    · have : b.p < a.p ∨ (a.p = b.p ∧ b.e < a.e) := by omega
      have h3 : ¬ X = Y := by omega
      rcases this with q | ⟨q, r⟩
      · have q' : ¬ a.p < b.p := by omega
        simp [h1, h3, q, q']
      · have r' : ¬ a.e < b.e := by omega
        simp [h1, h3, q, r, r']
    · have h3 : X = Y := by omega
      have q : a.p = b.p := by omega
      have r : a.e = b.e := by omega
      simp [h3, q, r]

theorem packL_eq {a b : Br} (ha : okB a = true) (hb : okB b = true) (xa : byB a) (xb : byB b) : packL a = packL b ↔ numsB a = numsB b := by
  obtain ⟨p0, p1, pm, e0, e1⟩ := okB_all ha
  obtain ⟨q0, q1, qm, f0, f1⟩ := okB_all hb
  obtain ⟨X, hX⟩ := Int.eq_ofNat_of_zero_le (show 0 ≤ a.p + a.e by omega)
  obtain ⟨Y, hY⟩ := Int.eq_ofNat_of_zero_le (show 0 ≤ b.p + b.e by omega)
  have hX' : X < 256 ^ 2 := by omega
  have hY' : Y < 256 ^ 2 := by omega
  constructor
  · intro h
    unfold packL at h
    obtain ⟨h1, h2⟩ := List.append_inj h (by simp [putL_length])
    rw [hX, hY, Int.toNat_natCast, Int.toNat_natCast] at h1
    have h3 := putL_inj X Y 2 hX' hY' h1
    have h4 : six a.a = six b.a := by
      simp only [six, List.map_cons, List.map_nil, List.cons.injEq, and_true] at h2 ⊢
      obtain ⟨g0, g1, g2, g3, g4, g5⟩ := h2
      exact ⟨(ofNat_eq _ _ (xa _) (xb _)).1 g0, (ofNat_eq _ _ (xa _) (xb _)).1 g1, (ofNat_eq _ _ (xa _) (xb _)).1 g2, (ofNat_eq _ _ (xa _) (xb _)).1 g3, (ofNat_eq _ _ (xa _) (xb _)).1 g4, (ofNat_eq _ _ (xa _) (xb _)).1 g5⟩
    unfold numsB
    rw [sixI_map, sixI_map, h4, show a.p = b.p by omega, show a.e = b.e by omega]
  · intro h
    unfold numsB at h
    obtain ⟨h1, h2⟩ := List.append_inj h rfl
    simp only [List.cons.injEq, and_true] at h1
    unfold packL
    rw [h1.1, h1.2, sixI_inj h2]


end Go.Proofs.YtdjljnpbnhampaaDoor

namespace Go.Proofs.YtdjljnpbnhampaaDoor
set_option linter.unusedVariables false

structure Fl where
  ch : Bool
  pr : Bool
  ro : Int
  le : Bool
  pa : Bool
  ag : Bool
  ac : Bool

structure Bp where
  k : Int
  f : Fl
  root : Br
  cost : Int
  snd : Br
  pp : Int
  pn : Int
  age : Int
  mx : Int
  hel : Int
  wai : Int

def zFl : Fl := ⟨false, false, 0, false, false, false, false⟩

/-- A Config's. -/
def cfF (f : Fl) : Fl := ⟨f.ch, false, 0, false, false, false, f.ac⟩

def okF (f : Fl) : Bool := decide (0 ≤ f.ro) && decide (f.ro ≤ 3)

/-- As a byte, and back. -/
def byF (f : Fl) : Nat := f.ch.toNat + 2 * f.pr.toNat + 4 * f.ro.toNat + 16 * f.le.toNat + 32 * f.pa.toNat + 64 * f.ag.toNat + 128 * f.ac.toNat

def ofF (n : Nat) : Fl := ⟨n % 2 == 1, n / 2 % 2 == 1, ((n / 4 % 4 : Nat) : Int), n / 16 % 2 == 1, n / 32 % 2 == 1, n / 64 % 2 == 1, n / 128 % 2 == 1⟩

theorem okF_all {f : Fl} (h : okF f = true) : 0 ≤ f.ro ∧ f.ro ≤ 3 := by simpa [okF] using h

theorem byF_lt (f : Fl) (h : okF f = true) : byF f < 256 := by
  obtain ⟨h0, h1⟩ := okF_all h
  have b := fun x : Bool => (show x.toNat ≤ 1 by cases x <;> decide)
  have := b f.ch; have := b f.pr; have := b f.le; have := b f.pa; have := b f.ag; have := b f.ac
  unfold byF
  omega

theorem okF_of (n : Nat) : okF (ofF n) = true := by
  have : n / 4 % 4 < 4 := Nat.mod_lt _ (by decide)
  have h0 : (0 : Int) ≤ ((n / 4 % 4 : Nat) : Int) := Int.natCast_nonneg _
  have h1 : ((n / 4 % 4 : Nat) : Int) ≤ 3 := by omega
  show (decide ((0 : Int) ≤ ((n / 4 % 4 : Nat) : Int)) && decide (((n / 4 % 4 : Nat) : Int) ≤ 3)) = true
  rw [decide_eq_true h0, decide_eq_true h1]
  rfl

theorem bit_nat (n : Nat) : (n % 2 == 1).toNat = n % 2 := by
  rcases Nat.mod_two_eq_zero_or_one n with h | h <;> rw [h] <;> rfl

theorem byF_of (n : Nat) (h : n < 256) : byF (ofF n) = n := by
  unfold byF ofF
  simp only [bit_nat, Int.toNat_natCast]
  omega

theorem ofF_by (f : Fl) (h : okF f = true) : ofF (byF f) = f := by
  obtain ⟨h0, h1⟩ := okF_all h
  obtain ⟨ch, pr, ro, le, pa, ag, ac⟩ := f
  obtain ⟨r, hr⟩ := Int.eq_ofNat_of_zero_le h0
  simp only at h1 hr
  subst hr
  have : r = 0 ∨ r = 1 ∨ r = 2 ∨ r = 3 := by omega
  unfold ofF byF
  simp only [Fl.mk.injEq]
  rcases this with rfl | rfl | rfl | rfl <;> cases ch <;> cases pr <;> cases le <;> cases pa <;> cases ag <;> cases ac <;> decide

/-- What a Config or Rapid message has beside its flags may be. -/
def okTm (b : Bp) : Bool := fitI 2 b.age && (fitI 2 b.mx && (fitI 2 b.hel && fitI 2 b.wai))

def okBd (b : Bp) : Bool := okB b.root && (okB b.snd && (okPt b.pp b.pn && (fitI 4 b.cost && okTm b)))

def z6b : Nat → Nat := fun _ => 0

def zBp : Bp := ⟨0, zFl, ⟨0, 0, z6b⟩, 0, ⟨0, 0, z6b⟩, 0, 0, 0, 0, 0, 0⟩

/-- The Notice. -/
def nBp : Bp := ⟨2, zFl, ⟨0, 0, z6b⟩, 0, ⟨0, 0, z6b⟩, 0, 0, 0, 0, 0, 0⟩

/-- Its bytes behind the head. -/
def pprL (p n : Int) : List UInt8 := putL (256 * p + n).toNat 2

def tmL (b : Bp) : List UInt8 := putL b.age.toNat 2 ++ (putL b.mx.toNat 2 ++ (putL b.hel.toNat 2 ++ putL b.wai.toNat 2))

def bodyL (b : Bp) : List UInt8 := putL (byF b.f) 1 ++ (packL b.root ++ (putL b.cost.toNat 4 ++ (packL b.snd ++ (pprL b.pp b.pn ++ tmL b))))

theorem bodyL_len (b : Bp) : (bodyL b).length = 31 := by simp [bodyL, tmL, pprL, putL_length, packL_len]

/-- Its bytes. -/
def writeL (b : Bp) : List UInt8 := if b.k = 1 then [0, 0, 0, 0] ++ bodyL b else if b.k = 3 then [0, 0, 2, 2] ++ (bodyL b ++ [0]) else [0, 0, 0, 128]

end Go.Proofs.YtdjljnpbnhampaaDoor

namespace Go.Proofs.YtdjljnpbnhampaaDoor
set_option linter.unusedVariables false

/-- What is told of one instance. -/
structure Ins where
  f : Fl
  root : Br
  cost : Int
  br : Int
  pt : Int
  hop : Int

/-- A message, but its instances. -/
structure Ms where
  base : Bp
  name : ByteArray
  rev : Int
  dig : ByteArray
  cost : Int
  br : Br
  hop : Int

def zIns : Ins := ⟨zFl, ⟨0, 0, z6b⟩, 0, 0, 0, 0⟩

instance : Inhabited Ins := ⟨zIns⟩

def zMs : Ms := ⟨zBp, ⟨#[]⟩, 0, ⟨#[]⟩, 0, ⟨0, 0, z6b⟩, 0⟩

def byIns (x : Ins) : Prop := byB x.root

def rkI (v : Int) : Bool := decide (0 ≤ v) && decide (v ≤ 15)

theorem rkI_all {v : Int} (h : rkI v = true) : 0 ≤ v ∧ v ≤ 15 := by simpa [rkI] using h

/-- What may be. -/
def okIns (x : Ins) : Bool := okF x.f && (okB x.root && (fitI 4 x.cost && (rkI x.br && (rkI x.pt && fitI 1 x.hop))))

def tz (s : ByteArray) : Bool := s.data.toList.getLast? == some 0

def okMs0 (m : Ms) : Bool := fitI 2 m.rev && (decide (m.dig.size = 16) && (fitI 4 m.cost && (okB m.br && fitI 1 m.hop)))

/-- The bytes of an instance. -/
def insL (x : Ins) : List UInt8 := putL (byF x.f) 1 ++ (packL x.root ++ (putL x.cost.toNat 4 ++ (putL (16 * x.br).toNat 1 ++ (putL (16 * x.pt).toNat 1 ++ putL x.hop.toNat 1))))

theorem insL_len (x : Ins) : (insL x).length = 16 := by simp [insL, putL_length, packL_len]

/-- The bytes of all. -/
def inssL (l : List Ins) : List UInt8 := l.flatMap insL

theorem inssL_len (l : List Ins) : (inssL l).length = 16 * l.length := by
  unfold inssL
  induction l with
  | nil => rfl
  | cons x l ih =>
    rw [List.flatMap_cons, List.length_append, insL_len, ih, List.length_cons]
    omega

theorem inssL_snoc (l : List Ins) (k : Nat) (h : k < l.length) : inssL (l.take (k + 1)) = inssL (l.take k) ++ insL l[k] := by
  unfold inssL
  rw [List.take_add_one, List.getElem?_eq_getElem h, List.flatMap_append]
  simp

def padL (s : ByteArray) : List UInt8 := s.data.toList ++ List.replicate (32 - s.size) 0

theorem padL_len (s : ByteArray) (h : s.size ≤ 32) : (padL s).length = 32 := by
  unfold padL
  rw [List.length_append, List.length_replicate]
  have : s.data.toList.length = s.size := by simp
  omega

def okRp (b : Bp) : Bool := okF b.f && okBd b

/-- What may be: a message with its instances. -/
def okMs (m : Ms) (l : List Ins) : Bool := (m.base.k == 3) && (okRp m.base && (decide (m.name.size ≤ 32) && (!tz m.name && (okMs0 m && (decide (l.length ≤ 64) && l.all okIns)))))

/-- Its bytes. -/
def headM (m : Ms) (n : Nat) : List UInt8 := [0, 0, 3, 2] ++ (bodyL m.base ++ ([0] ++ (putL (64 + 16 * n) 2 ++ ([0] ++ (padL m.name ++ (putL m.rev.toNat 2 ++ (m.dig.data.toList ++ (putL m.cost.toNat 4 ++ (packL m.br ++ putL m.hop.toNat 1)))))))))

def writeM (m : Ms) (l : List Ins) : List UInt8 := headM m l.length ++ inssL l

theorem okMs_all {m : Ms} {l : List Ins} (h : okMs m l = true) : m.base.k = 3 ∧ okRp m.base = true ∧ m.name.size ≤ 32 ∧ tz m.name = false ∧ fitI 2 m.rev = true ∧ m.dig.size = 16 ∧ fitI 4 m.cost = true ∧ okB m.br = true ∧ fitI 1 m.hop = true ∧ l.length ≤ 64 ∧ l.all okIns = true := by
  simp only [okMs, okMs0, Bool.and_eq_true, beq_iff_eq, decide_eq_true_eq, Bool.not_eq_true'] at h
  obtain ⟨h0, h1, h2, h3, ⟨h4, h5, h6, h7, h8⟩, h9, h10⟩ := h
  exact ⟨h0, h1, h2, h3, h4, h5, h6, h7, h8, h9, h10⟩

theorem headM_len (m : Ms) (n : Nat) (h1 : m.name.size ≤ 32) (h2 : m.dig.size = 16) : (headM m n).length = 102 := by
  have h3 : m.dig.data.toList.length = m.dig.size := by simp
  unfold headM
  simp only [List.length_append, putL_length, packL_len, bodyL_len, padL_len m.name h1, h3, h2, List.length_cons, List.length_nil]

theorem writeM_len (m : Ms) (l : List Ins) (h1 : m.name.size ≤ 32) (h2 : m.dig.size = 16) : (writeM m l).length = 102 + 16 * l.length := by
  unfold writeM
  rw [List.length_append, headM_len m _ h1 h2, inssL_len]

end Go.Proofs.YtdjljnpbnhampaaDoor

