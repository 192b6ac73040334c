/- package bridge: In at every argument; State. -/
import Derived.Test.YtdceggekhhflgaaBrI
namespace Go.Proofs.Ytdceggekhhflgaa
open Go.RowKit
attribute [local go_sem ↓] Go.wp_at_zero Go.wp_at_succ
set_option linter.unusedSimpArgs false
set_option linter.unusedVariables false
set_option maxRecDepth 100000

section
variable [Zone]
variable {B b t c : Nat} {ad : Option Addr} {hs : List PsH} {age last : Int} {E : List Ent}

theorem in_any (port now : Int) (f : Fr) (w : World) (h : BrgAt w B b t c ad hs age last E) (hf : FrIn w f) (hK : TagsK w B f.ta f.tl) (hd : ∀ i, f.d i < 256) (hsb : ∀ i, f.s i < 256) (hB : Zone.up B ≤ w.heap.size) :
    Calls Try.prog 17 #[.pointer (some ⟨b, 0, none⟩), .int .i64 port, frV f, .int .i64 now] w fun e w' => InPost B b t c ad hs age last E port now f w e w' := by
  cases hb : hasB hs.length port with
  | false => exact in_noport h hb
  | true =>
    cases hr : rightB f with
    | false => exact in_wrong h hf hb hr
    | true =>
      cases hdead : deadB ((hs.map PsH.x).getD port.toNat zPs) (vidM (hs.map PsH.x) port f.tl) f.d with
      | true => exact in_dead h hf hd hb hr hdead
      | false =>
        cases hg : grpB f.s with
        | true =>
          by_cases hst : ((hs.map PsH.x).getD port.toNat zPs).st = 3
          · exact in_grp_sent h hf hK hd hsb hB hb hr hdead hg hst
          · exact in_grp_quiet h hf hK hd hsb hB hb hr hdead hg hst
        | false =>
          by_cases hle : learnErr last (vidM (hs.map PsH.x) port f.tl) f.s port now = 0
          · by_cases hst : ((hs.map PsH.x).getD port.toNat zPs).st = 3
            · exact in_lrn_sent h hf hK hd hsb hB hb hr hdead hg hle hst
            · exact in_lrn_quiet h hf hK hd hsb hB hb hr hdead hg hle hst
          · exact in_err h hf hK hd hsb hB hb hr hdead hg hle
end

/-- A port in another state. -/
def setSt (x : PsH) (st : Int) : PsH := { x with x := { x.x with st := st } }

theorem take_set {α : Type} (l : List α) (m : Nat) (v : α) (h : m < l.length) : l.take m ++ [v] ++ l.drop (m + 1) = l.set m v := by
  rw [List.set_eq_take_append_cons_drop, if_pos h, List.append_assoc]
  rfl

theorem psAt_set {w w' : World} {g : Nat} {hs : List PsH} {cur : Array Value} {k : Nat} {st : Int} (hB : Blk w g 59 cur) (hA : PsAt w g 0 hs) (hk : k < hs.length) (hm : k * 4 + 3 < cur.size)
    (hB' : Blk w' g 59 ((cur.toList.take (k * 4 + 3) ++ [Value.int .i64 st] ++ cur.toList.drop (k * 4 + 3 + 1)).toArray)) : PsAt w' g 0 (hs.set k (setSt hs[k] st)) := by
  rw [take_set _ _ _ (by simpa using hm)] at hB'
  intro j hj q u hu
  have hj2 : j < hs.length := by simpa using hj
  have hq : q < 4 := (Array.getElem?_eq_some_iff.1 hu).1
  rw [hB'.c, Nat.zero_add]
  have old := hA j hj2
  simp only [List.getElem?_toArray]
  rw [List.getElem?_set]
  by_cases e : k * 4 + 3 = j * 4 + q
  · have ejk : j = k := by omega
    have eq3 : q = 3 := by omega
    subst ejk
    subst eq3
    rw [if_pos e, if_pos (by simpa using hm)]
    rw [List.getElem_set_self] at hu
    exact hu
  · rw [if_neg e]
    have hcell : ∀ u, (psC hs[j])[q]? = some u → cur.toList[j * 4 + q]? = some u := fun u hu => by
      have := old q u hu
      rw [hB.c, Nat.zero_add] at this
      simpa using this
    apply hcell
    by_cases ejk : j = k
    · subst ejk
      rw [List.getElem_set_self] at hu
      have : q = 0 ∨ q = 1 ∨ q = 2 := by omega
      rcases this with rfl | rfl | rfl <;> exact hu
    · rw [List.getElem_set_ne (by omega)] at hu
      exact hu

def stErr (n : Nat) (port st : Int) : Int := if hasB n port = true ∧ stB st = true then 0 else 2

def stE (E : List Ent) (port st : Int) : List Ent := if st = 1 then forgetM E port else E

abbrev ST : List TypeId := [104, 100, 59]

theorem okPs_set {x : PsH} {st : Int} (h : okPs x.x = true) (hs : stB st = true) : okPs (setSt x st).x = true := by
  unfold okPs setSt at *
  simp only [Bool.and_eq_true] at h ⊢
  exact ⟨h.1, hs, h.2.2⟩
section
variable {B b t c : Nat} {ad : Option Addr} {hs : List PsH} {age last : Int} {E : List Ent}

set_option maxHeartbeats 1600000 in
theorem state_bad (port st : Int) (w : World) (h : BrgAt w B b t c ad hs age last E) (hbad : ¬ (hasB hs.length port = true ∧ stB st = true)) :
    Calls Try.prog 16 #[.pointer (some ⟨b, 0, none⟩), .int .i64 port, .int .i64 st] w fun e w' => e = .returned (.iface 71 (.int .i64 2)) ∧ w = w' := by
  have HH := Lib.hid (has_any port w h)
  have HT := Lib.hid (isState_any st w)
  clear h
  cases hb : hasB hs.length port with
  | false =>
    rw [hb] at HH
    clear hbad
    go_enter Try.func16, Try.ntmps16
    go_wp2_with (go_at_call 36; refine HH.out.mono ?_; rintro e w' ⟨rfl, rfl⟩)
    go_ret
    exact ⟨rfl, rfl⟩
  | true =>
    have ht : stB st = false := by
      cases q : stB st with
      | false => rfl
      | true => exact absurd ⟨hb, q⟩ hbad
    rw [hb] at HH
    rw [ht] at HT
    clear hbad
    go_enter Try.func16, Try.ntmps16
    go_wp2_with (first
      | (go_at_call 36; refine HH.out.mono ?_; rintro e w' ⟨rfl, rfl⟩)
      | (go_at_call 37; refine HT.out.mono ?_; rintro e w' ⟨rfl, rfl⟩))
    go_ret
    exact ⟨rfl, rfl⟩

set_option maxHeartbeats 3200000 in
theorem state_ok (k : Nat) (hk : k < hs.length) (st : Int) (w : World) (h : BrgAt w B b t c ad hs age last E) (hst : stB st = true) (hB : B ≤ w.heap.size) :
    Calls Try.prog 16 #[.pointer (some ⟨b, 0, none⟩), .int .i64 (k : Int), .int .i64 st] w fun e w' => e = .returned .nilIface ∧ BrgAt w' B b t c ad (hs.set k (setSt hs[k] st)) age last (stE E (k : Int) st) ∧ Lx B ST w w' := by
  have HH := Lib.hid (has_any (k : Int) w h)
  have hhas : hasB hs.length (k : Int) = true := by unfold hasB; rw [decide_eq_true (by omega), decide_eq_true (by omega)]; rfl
  rw [hhas] at HH
  have HT := Lib.hid (isState_any st w)
  rw [hst] at HT
  obtain ⟨g, cur, rfl, hg, hgb, hcs⟩ := h.at hk
  have hA : PsAt w g 0 hs := by
    rcases h.row with rfl | ⟨g', cur', e1, _, _, e4⟩
    · simp at hk
    · cases e1; exact e4
  have hm : k * 4 + 3 < cur.size := by
    have := hcs 3 _ rfl
    rw [hgb.c] at this
    exact (Array.getElem?_eq_some_iff.1 this).1
  have HSET : Hid (∀ w', Blk w' g 59 ((cur.toList.take (k * 4 + 3) ++ [Value.int .i64 st] ++ cur.toList.drop (k * 4 + 3 + 1)).toArray) → PsAt w' g 0 (hs.set k (setSt hs[k] st))) := fun w' q => psAt_set hgb hA hk hm q
  have c0 := h.blk.cv 0 _ rfl
  have q1 : (k : Int) < (hs.length : Int) := by omega
  have q3 : (0 : Int) ≤ (k : Int) := by omega
  have NEW : Hid (∀ w1, w.grownBy w1 (some g) → Blk w1 g 59 ((cur.toList.take (k * 4 + 3) ++ [Value.int .i64 st] ++ cur.toList.drop (k * 4 + 3 + 1)).toArray) → BrgAt w1 B b t c (some ⟨g, 0, none⟩) (hs.set k (setSt hs[k] st)) age last E) := fun w1 hgr hbl => by
    have hk2 : ∀ i T C, Blk w i T C → T ≠ 59 → w1.heap[i]? = w.heap[i]? := fun i T C q hT => hgr.block i q.lt (by intro e; cases e; exact hT (blk_type q hgb))
    obtain ⟨v, hb, hr⟩ := h.tab.row
    refine ⟨by rw [List.length_set]; exact (hk2 _ _ _ h.blk (by decide)).trans h.blk, Or.inr ⟨g, _, rfl, hg, hbl, HSET.out w1 hbl⟩, fun y hy => ?_, ⟨⟨v, (hk2 _ _ _ hb (by decide)).trans hb, hr.keep fun i C q _ => hk2 i _ C q (by decide)⟩, h.tab.lo, h.tab.ok, h.tab.a0, h.tab.a1, h.tab.l0, h.tab.l1⟩, h.lo, by rw [List.length_set]; exact h.few, by rw [List.length_set]; exact h.lc, h.cm, fun y hy => ?_⟩
    · rcases List.mem_or_eq_of_mem_set hy with q | rfl
      · exact (h.kp y q).keep fun i C q _ => hk2 i _ C q (by decide)
      · have := (h.kp _ (List.getElem_mem hk)).keep (w' := w1) fun i C q _ => hk2 i _ C q (by decide)
        exact ⟨this.i, this.b, this.ic, this.bc, this.im, this.bm⟩
    · rcases List.mem_or_eq_of_mem_set hy with q | rfl
      · exact h.right y q
      · exact okPs_set (h.right _ (List.getElem_mem hk)) hst
  have HFG : Hid (∀ w1, BrgAt w1 B b t c (some ⟨g, 0, none⟩) (hs.set k (setSt hs[k] st)) age last E → B ≤ w1.heap.size → Calls Try.prog 38 #[.pointer (some ⟨t, 0, none⟩), .int .i64 (k : Int)] w1 fun e w' => e = .returned (.tuple #[]) ∧ Tab w' B t age last (forgetM E (k : Int)) ∧ Lx B LT w1 w') := fun w1 q hB1 => forget_any B t age last E (k : Int) w1 q.tab hB1
  generalize hs.set k (setSt hs[k] st) = hs2 at *
  clear hA hcs h HSET hk
  by_cases h1 : st = 1
  · have e1 : (st == 1) = true := beq_iff_eq.2 h1
    have HE : Hid (stE E (k : Int) st = forgetM E (k : Int)) := if_pos h1
    clear h1
    go_enter Try.func16, Try.ntmps16
    go_wp2_with (first
      | (go_at_call 36; refine HH.out.mono ?_; rintro e w' ⟨rfl, rfl⟩)
      | (go_at_call 37; refine HT.out.mono ?_; rintro e w' ⟨rfl, rfl⟩)
      | (refine store_blk (B := g) (k := k * 4 + 3) 3 (.int .i64 st) _ (by rfl) rfl rfl rfl hgb (by kernel_rfl) (show k * 4 + 3 + 1 ≤ cur.size from hm) (by rfl) rfl ?_; intro w1 hb1 bb1 g1; have hN := NEW.out w1 g1 hb1; have d1 := hN.blk.cv 1 _ rfl; have hB1 := Nat.le_trans hB g1.size)
      | (go_at_call 38; refine (HFG.out _ hN hB1).mono ?_; rintro e w2 ⟨rfl, ht2, hx2⟩))
    go_ret
    exact ⟨rfl, by rw [HE.out]; exact hN.tabbed hx2 ht2, ((Lx.refl B ST w).grown g1 (show Own B g from ⟨hg, fun q => q⟩) (by simp) hgb).trans (hx2.mono (Nat.le_refl _) (by simp))⟩
  · have e1 : (st == 1) = false := beq_eq_false_iff_ne.2 h1
    have HE : Hid (stE E (k : Int) st = E) := if_neg h1
    clear h1
    go_enter Try.func16, Try.ntmps16
    go_wp2_with (first
      | (go_at_call 36; refine HH.out.mono ?_; rintro e w' ⟨rfl, rfl⟩)
      | (go_at_call 37; refine HT.out.mono ?_; rintro e w' ⟨rfl, rfl⟩)
      | (refine store_blk (B := g) (k := k * 4 + 3) 3 (.int .i64 st) _ (by rfl) rfl rfl rfl hgb (by kernel_rfl) (show k * 4 + 3 + 1 ≤ cur.size from hm) (by rfl) rfl ?_; intro w1 hb1 bb1 g1; have hN := NEW.out w1 g1 hb1))
    go_ret
    exact ⟨rfl, by rw [HE.out]; exact hN, (Lx.refl B ST w).grown g1 (show Own B g from ⟨hg, fun q => q⟩) (by simp) hgb⟩
end

end Go.Proofs.Ytdceggekhhflgaa
