/- switchyardkeep.passes. -/
import Derived.Test.YtdceggekhhflgaaPp
namespace Go.Proofs.Ytdceggekhhflgaa
open Go.RowKit
attribute [local go_sem ↓] Go.wp_at_zero Go.wp_at_succ
set_option linter.unusedSimpArgs false
set_option linter.unusedVariables false
set_option maxRecDepth 100000

theorem pF_d (i : Nat) : pF.d i < 256 := by
  show (if i = 0 then 4 else 0) < 256
  split <;> decide

theorem pF_s (i : Nat) : pF.s i < 256 := by
  show (if i = 0 then 2 else 0) < 256
  split <;> decide

theorem pF_fr (w : World) : FrIn w pF := ⟨Or.inl rfl, by show (0 : Nat) ≤ 20; omega, by show (0 : Nat) ≤ 0; omega, by show (0 : Nat) ≤ 3000; omega⟩

set_option maxHeartbeats 6400000 in
theorem passes_any (w : World) : Calls Try.prog 11 #[] w fun e w' => e = .returned (.bool true) ∧ Below w.heap.size w w' := by
  have HPP := Lib.hid (plainPorts_any 3 (by decide) w)
  have HNW := Lib.hid (fun a c l w h hok hl hr => newB_100 a c l w h hok hl hr)
  go_enter Try.func11, Try.ntmps11
  go_upto_region 2 with (first
    | (go_at_call 13; refine HPP.out.mono ?_; rintro e w1 ⟨⟨v, L, rfl, hO, hL, hP⟩, k1⟩; obtain ⟨a1, c1, rfl, hI1⟩ := hO.inL; have hL3 := Lib.hid (show L.length = 3 by have := congrArg List.length hL; simpa using this))
    | (go_at_call 28; refine (newB_100 a1 c1 L w1 hI1 (fun x hx => (hP x hx).ok) (by rw [hL3.out]; decide) (fun x hx => by have hm : x.x ∈ L.map PsH.x := List.mem_map.2 ⟨x, hx, rfl⟩; rw [hL] at hm; rw [(List.mem_replicate.1 hm).2]; exact pP_ok)).mono ?_; rintro e w2 ⟨b, t, cc, ad, hs, rfl, hmap, hbr, k2⟩))
  have hmap2 : hs.map PsH.x = [pP, pP, pP] := hmap.trans hL
  have B2 := k1.trans (k2.mono k1.size)
  have k1s := k1.size
  have B2s := B2.size
  clear hO hP hI1 hmap hL hL3 HPP HNW k1
  have hIN := Lib.hid (in_any (B := w1.heap.size) (b := b) (t := t) (c := cc) (ad := ad) (hs := hs) (age := 100) (last := 0) (E := []) 1 5 pF w2 hbr (pF_fr _) (Or.inl rfl) pF_d pF_s k2.size)
  clear hbr
  go_upto_region 5 with (first
    | (refine build_blk (o := ⟨some 18, _, _, _, _, _⟩) (c6 pF.d) (by rfl) rfl (by kernel_rfl) ?_)
    | (refine build_blk (o := ⟨some 19, _, _, _, _, _⟩) (c6 pF.s) (by rfl) rfl (by kernel_rfl) ?_)
    | (refine build_blk (o := ⟨some 20, _, _, _, _, _⟩) (frC pF) (by rfl) rfl (by kernel_rfl) ?_)
    | (go_at_call 17; refine hIN.out.mono ?_; rintro e w3 ⟨v, ss, rfl, ho, hss, hbr, hx⟩; obtain ⟨a3, c3, rfl, hI3⟩ := ho.inL; rw [hmap2, pF_in] at hss hbr; rw [hmap2, pF_in]; rw [show errV (InR.err ⟨0, 5, [⟨1, pF.s, 1, 5⟩], [0, 2]⟩) = .nilIface from rfl]))
  obtain ⟨x, y, hxy, hx1, hy1⟩ := Sents.two hss
  subst hxy
  have hbl := (hx.below k2.size)
  obtain ⟨bb, lo, rfl, hbl2, hat⟩ := SnIn.at hI3 (k := 0) (by simp)
  have x0 : w3.cell? ⟨bb, lo, none⟩ = some (.int .i64 0) := by
    have := hat 0 (by simp) 0 _ rfl
    rw [show lo + 0 * 22 + 0 = lo by omega] at this
    rw [this]
    exact congrArg some (congrArg (Value.int .i64) hx1.1)
  have y0 : w3.cell? ⟨bb, lo + 22, none⟩ = some (.int .i64 2) := by
    have := hat 1 (by simp) 0 _ rfl
    rw [show lo + 1 * 22 + 0 = lo + 22 by omega] at this
    rw [this]
    exact congrArg some (congrArg (Value.int .i64) hy1.1)
  obtain ⟨ta, tc, x2, x3⟩ : ∃ ta tc, w3.cell? ⟨bb, lo + 13, none⟩ = some (.slice ta 0 tc) ∧ True := by
    obtain ⟨_, ta, tc, e1, _⟩ := hx1
    have := hat 0 (by simp) 13 _ rfl
    rw [show lo + 0 * 22 + 13 = lo + 13 by omega] at this
    refine ⟨x.f.ta, x.f.tc, ?_, trivial⟩
    rw [this]
    have e2 : x.f.tl.length = 0 := by rw [e1]; rfl
    show some (Value.slice x.f.ta x.f.tl.length x.f.tc) = _
    rw [e2]
  have HW := Lib.hid (where_any (B := w1.heap.size) (b := b) (t := t) (c := cc) (ad := ad) (hs := hs) (age := 100) (last := 5) (E := [⟨1, pF.s, 1, 5⟩]) 1 pF.s 5 w3 hbr)
  rw [pF_look] at HW
  have B3 := (B2.trans (hbl.mono k1s)).size
  have BW := B2.trans (hbl.mono k1s)
  clear hat hx1 hy1 hI3 hss hbr hx ho hIN
  go_wp2_with (first
    | (refine build_blk (o := ⟨some 56, _, _, _, _, _⟩) (c6 pF.s) (by rfl) rfl (by kernel_rfl) ?_)
    | (go_at_call 19; refine HW.out.mono ?_; rintro e w4 ⟨rfl, k4⟩))
  go_ret
  exact ⟨rfl, BW.trans (k4.mono BW.size)⟩

end Go.Proofs.Ytdceggekhhflgaa
