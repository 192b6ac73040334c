/- switchyardkeep.TlvBack: what is written is read, and just so: true, and what was there is as it was. -/
import Derived.Test.YticjmjoiggnblaaDoorTlFacts
import Derived.Test.YticjmjoiggnblaaDoorTlBackM
namespace Go.Proofs.YticjmjoiggnblaaDoor.tlvBack
open Go.RowKit
attribute [local go_sem ↓] Go.wp_at_zero Go.wp_at_succ
set_option linter.unusedSimpArgs false
set_option linter.unusedVariables false
set_option maxRecDepth 100000

set_option maxHeartbeats 12800000 in
theorem walk (a : Option Addr) (c : Nat) (l : List Tl) (s : ByteArray) (w : World) (h : TlIn w a l) (hlm : l.length ≤ maxLen) :
    Calls Tryd.prog 5 #[.slice a l.length c, .string s] w fun e w' => e = .returned (.bool true) ∧ Below w.heap.size w w' := by
  obtain ⟨fb, hfb, HF0⟩ := fits_tl a c l hlm
  have HF := Lib.hid HF0
  have HL := Lib.hid listed_any
  clear HF0
  by_cases hs : 3000 < s.size
  · have ds : decide ((3000 : Int) < (s.size : Int)) = true := decide_eq_true (by omega)
    clear hfb
    cases fb with
    | false =>
      go_enter Tryd.func5, Tryd.ntmps5
      go_wp2_with fail
      refine (HL.out _).mono ?_
      rintro e w1 ⟨rfl, b1⟩
      go_wp2_with fail
      refine (HF.out _ (h.below b1)).mono ?_
      rintro e w2 ⟨rfl, b2⟩
      go_wp2
      go_ret
      exact ⟨rfl, b1.trans (b2.mono b1.size)⟩
    | true =>
      go_enter Tryd.func5, Tryd.ntmps5
      go_wp2_with fail
      refine (HL.out _).mono ?_
      rintro e w1 ⟨rfl, b1⟩
      go_wp2_with fail
      refine (HF.out _ (h.below b1)).mono ?_
      rintro e w2 ⟨rfl, b2⟩
      go_wp2
      go_ret
      exact ⟨rfl, b1.trans (b2.mono b1.size)⟩
  have ds : decide ((3000 : Int) < (s.size : Int)) = false := decide_eq_false (by omega)
  cases fb with
  | false =>
    go_enter Tryd.func5, Tryd.ntmps5
    go_wp2_with fail
    refine (HL.out _).mono ?_
    rintro e w1 ⟨rfl, b1⟩
    go_wp2_with fail
    refine (HF.out _ (h.below b1)).mono ?_
    rintro e w2 ⟨rfl, b2⟩
    go_wp2
    go_ret
    exact ⟨rfl, b1.trans (b2.mono b1.size)⟩
  | true =>
  have h40 : l.length ≤ 40 := hfb rfl
  obtain ⟨m, b, fin, e1, p1, HS, hSR⟩ : ∃ (m : List Tl) (b : List Nat) (fin : Nat) (e1 p1 : Int), Hid (∀ W, Calls Tryd.prog 15 #[.string s] W fun e w' => ∃ v1 v2 er, e = .returned (.tuple #[v1, v2, .int .i64 (fin : Nat), er]) ∧ OwnTl w' W.heap.size v1 m ∧ OwnNat w' W.heap.size v2 b ∧ ErrAs w' er e1 p1 ∧ Below W.heap.size W w') ∧
      ((m = [] ∧ e1 ≠ 0) ∨ (e1 = 0 ∧ p1 = -1 ∧ (∀ x ∈ m, okTl x = true) ∧ Lib.hasPrefix s.data.toList (tlWrite m) = true ∧ (tlWrite m).length = fin + 2 ∧ (2 * m.length ≤ 3000 ∧ fin ≤ 3000))) := by
    refine ⟨_, _, _, _, _, Lib.hid fun W => tlRead_any s W (by omega) _ rfl, ?_⟩
    have hls : s.data.toList.length = s.size := by simp
    cases hr : rdAll s.data.toList with
    | bad e p => exact Or.inl ⟨rfl, by
        intro q
        have q : e = 0 := q
        exact rd_bad_ne _ _ _ _ _ _ _ hr q⟩
    | ok m b e =>
      obtain ⟨q1, q2, q3, q4, q5, q6, q7⟩ := wrote_rdAll _ _ _ _ hr
      refine Or.inr ⟨rfl, rfl, q1, ?_, q3, ?_⟩
      · show (tlWrite m).isPrefixOf s.data.toList = true
        rw [q2, List.isPrefixOf_iff_prefix]
        exact List.take_prefix _ _
      · show 2 * m.length ≤ 3000 ∧ e ≤ 3000
        exact ⟨by omega, by omega⟩
  clear hfb hs
  rcases all_or l with hok | ⟨k0, hk0, hno, hok⟩
  · have HW := Lib.hid (fun (W : World) (h : TlIn W a l) => tlWrite_any a c l l.length (Nat.le_refl _) (fun x hx => hok x (List.mem_of_mem_take hx)) (by omega) (tlWrite l) 0 (-1) (Or.inl ⟨rfl, rfl, rfl, rfl⟩) W h)
    have hle := tlWs_le l hok
    have hwl : (tlWrite l).length = (tlWs l).length + 2 := by unfold tlWrite; rw [List.length_append]; rfl
    have HR := Lib.hid (fun W => tlRead_any ⟨(tlWrite l).toArray⟩ W (by show (tlWrite l).toArray.size ≤ _; rw [List.size_toArray]; omega) (.ok l (offs 0 l) (tlWs l).length) (rdAll_wrote l hok))
    have HE := Lib.hid (fun (a2 : Option Addr) (c2 : Nat) (W : World) (h1 : TlIn W a l) (h2 : TlIn W a2 l) => eqTls_any a c a2 c2 l W h1 h2 (by omega))
    have hol := offs_len l 0
    have HNX := Lib.hid (offs_next l)
    have HGE := Lib.hid (offs_get l 0)
    have HTL : Hid (∀ k, k ≤ l.length → (tlWs (l.take k)).length ≤ (tlWs l).length) := fun k hk => by
      have q := congrArg List.length (tlWs_app (l.take k) (l.drop k))
      rw [List.take_append_drop, List.length_append] at q
      omega
    have HTE : Hid ((tlWs (l.take l.length)).length = (tlWs l).length) := by show _ = _; rw [List.take_length]
    have hT : (tlWs l).length ≤ 30000 := by omega
    have e1w : IntKind.i64.wrap (((tlWrite l).length : Int) - 2) = ((tlWs l).length : Int) := by rw [IntKind.wrap_i64] <;> omega
    have hXl : ((⟨(tlWrite l).toArray⟩ : ByteArray).size : Int) = ((tlWrite l).length : Int) := by show (((tlWrite l).toArray.size : Nat) : Int) = _; rw [List.size_toArray]
    have d1 : ((l.length : Int) != (l.length : Int)) = false := by simp
    have d2 : (((tlWs l).length : Int) != ((tlWs l).length : Int)) = false := by simp
    obtain ⟨OF, hOF⟩ : ∃ OF, OF = offs 0 l := ⟨_, rfl⟩
    simp only [← hOF] at HR HNX HGE hol
    clear hle hwl hok
    generalize tlWrite l = X at *
    generalize hTT : (tlWs l).length = T at *
    go_enter Tryd.func5, Tryd.ntmps5
    go_wp2_with fail
    refine (HL.out _).mono ?_
    rintro e w1 ⟨rfl, b1⟩
    go_wp2_with fail
    refine (HF.out _ (h.below b1)).mono ?_
    rintro e w2 ⟨rfl, b2⟩
    have B2 := b1.trans (b2.mono b1.size)
    clear b1 b2
    go_wp2_with fail
    refine (HW.out _ (h.below B2)).mono ?_
    rintro e w3 ⟨er, rfl, hp3, b3⟩
    have B3 := B2.trans (b3.mono B2.size)
    rcases hp3 with ⟨rfl, _, _⟩ | ⟨q, _⟩
    rotate_left
    · exact absurd rfl q
    go_wp2_with fail
    refine (HR.out _).mono ?_
    rintro e w4 ⟨v1, v2, er, rfl, O1, O2, hp4, b4⟩
    have B4 := B3.trans (b4.mono B3.size)
    rcases hp4 with ⟨rfl, _, _⟩ | ⟨q, _⟩
    rotate_left
    · exact absurd rfl q
    obtain ⟨a1, c1, hv1, J1⟩ := O1.inL
    subst hv1
    obtain ⟨a2, c2, hv2, J2⟩ := O2.inL
    subst hv2
    clear O1 O2 b3 b4 B2 B3
    have hI4 := h.below B4
    have er1 : (TlR.ok l OF T).recs = l := rfl
    have er2 : (TlR.ok l OF T).offs = OF := rfl
    have er3 : (TlR.ok l OF T).fin = T := rfl
    rw [er1] at J1
    rw [er2] at J2
    rw [er1, er2, er3, hol]
    clear er1 er2 er3
    go_wp2_with fail
    refine (HE.out _ _ _ hI4 J1).mono ?_
    rintro e w5 ⟨rfl, b5⟩
    have J5 := J2.below b5
    have B5 := B4.trans (b5.mono B4.size)
    have hI5 := h.below B5
    clear J1 J2 b5 B4 hI4
    go_wp2_with fail
    go_loopw [66] (fun i wr => ∃ k : Nat, k ≤ l.length ∧ i = .int .i64 k ∧ Below w5.heap.size w5 wr ∧ Below w.heap.size w wr) (fun i _ => l.length - (intOf i).toNat)
    case atStart => exact ⟨0, by omega, rfl, Below.refl _ _, B5⟩
    case round =>
      obtain ⟨k, hk, rfl, hb, Bk⟩ := hrel
      by_cases hlt : k < l.length
      · have hltn : k < OF.length := by omega
        obtain ⟨bl, ol, rfl, hbl, hatl⟩ := hI5.at hlt
        obtain ⟨ba, oa, rfl, hba, hata⟩ := J5.at hltn
        have q1 : (k : Int) < (l.length : Int) := by omega
        have q2 : decide ((k : Int) < (l.length : Int)) = true := decide_eq_true q1
        have q3 : (0 : Int) ≤ (k : Int) := by omega
        have q4 : (k : Int) < (OF.length : Int) := by omega
        have KS : wr.cell? ⟨bl, ol + k * 2 + 1, none⟩ = some (.string l[k].t) := (((hatl k hlt).below hb hbl) 1 (.string l[k].t) rfl)
        have KZ : wr.cell? ⟨ba, oa + k, none⟩ = some (.int .i64 (OF[k] : Nat)) := by
          have q := ((hata k hltn).below hb hba) 0 (.int .i64 (OF[k] : Nat)) rfl
          rw [Nat.mul_one, Nat.add_zero] at q
          exact q
        have hnx := HNX.out k hlt
        have htk := HTL.out (k + 1) (by omega)
        have hbd := hb.drew
        have Bkd := Bk.drew
        by_cases hl2 : k + 1 < l.length
        · have hln2 : k + 1 < OF.length := by omega
          have KN0 : wr.cell? ⟨ba, oa + (k + 1), none⟩ = some (.int .i64 (OF[k + 1] : Nat)) := by
            have q := ((hata (k + 1) hln2).below hb hba) 0 (.int .i64 (OF[k + 1] : Nat)) rfl
            rw [Nat.mul_one, Nat.add_zero] at q
            exact q
          have hge := HGE.out (k + 1) hl2
          obtain ⟨R1, hR1⟩ : ∃ R1, R1 = k + 1 := ⟨_, rfl⟩
          have hw1 : IntKind.i64.wrap ((k : Int) + 1) = (R1 : Int) := by rw [hR1, IntKind.wrap_i64] <;> omega
          have d3 : decide ((R1 : Int) < (l.length : Int)) = true := decide_eq_true (by omega)
          have q5 : (R1 : Int) < (OF.length : Int) := by omega
          have q6 : (0 : Int) ≤ (R1 : Int) := by omega
          have q7 : (R1 : Int) < (l.length : Int) := by omega
          have KN : wr.cell? ⟨ba, oa + R1, none⟩ = some (.int .i64 (OF[k + 1] : Nat)) := by rw [hR1]; exact KN0
          generalize OF[k + 1] = V2 at *
          generalize OF[k] = z at *
          generalize l[k] = x at *
          obtain ⟨V1, hV1⟩ : ∃ V1, V1 = z + 2 := ⟨_, rfl⟩
          have a1w : IntKind.i64.wrap ((z : Int) + 2) = (V1 : Int) := by rw [hV1, IntKind.wrap_i64] <;> omega
          have a2w : IntKind.i64.wrap ((V1 : Int) + (x.t.size : Int)) = (V2 : Int) := by rw [IntKind.wrap_i64] <;> omega
          have d4 : ((V2 : Int) != (V2 : Int)) = false := by simp
          have HR1 := Lib.hid hR1
          clear HNX HGE HR HTL HTE hatl hata hnx htk hge KN0 hR1 hV1 hTT hOF
          go_upto_region 16 with (fail)
          refine wp_region_noPanic ?_
          refine wp_region_held_drew (S := (fun w' => w'.cell? ⟨ba, oa + k, none⟩ = some (.int .i64 (z : Nat)) ∧ w'.cell? ⟨bl, ol + k * 2 + 1, none⟩ = some (.string x.t))) (by kernel_rfl) ?_ (fun hHeld => ?_)
          · exact ⟨KZ, KS⟩
          refine wpAnyH_take (i := 0) (v := ?_) rfl (by kernel_rfl) (by kernel_rfl) (by kernel_rfl) (fun _ _ _ h => h) (Or.inl ⟨by rfl, ?_⟩) (by assumption) ?_
          rotate_left
          · (intro w hSw; (try dsimp only at hSw); go_simp; (try with_reducible rfl))
          (try simp only [Act.put, List.getElem_toArray, List.getElem_cons_zero, List.getElem_cons_succ, List.setIfInBounds_toArray, List.set_cons_zero, List.set_cons_succ])
          refine wpAnyH_take (i := 1) (v := ?_) rfl (by kernel_rfl) (by kernel_rfl) (by kernel_rfl) (fun _ _ _ h => h) (Or.inl ⟨by rfl, ?_⟩) (by assumption) ?_
          rotate_left
          · (intro w hSw; (try dsimp only at hSw); go_simp; (try with_reducible rfl))
          (try simp only [Act.put, List.getElem_toArray, List.getElem_cons_zero, List.getElem_cons_succ, List.setIfInBounds_toArray, List.set_cons_zero, List.set_cons_succ])
          refine wpAnyH_take (i := 2) (v := ?_) rfl (by kernel_rfl) (by kernel_rfl) (by kernel_rfl) (fun _ _ _ h => h) (Or.inl ⟨by rfl, ?_⟩) (by assumption) ?_
          rotate_left
          · (intro w hSw; (try dsimp only at hSw); go_simp; (try with_reducible rfl))
          (try simp only [Act.put, List.getElem_toArray, List.getElem_cons_zero, List.getElem_cons_succ, List.setIfInBounds_toArray, List.set_cons_zero, List.set_cons_succ])
          refine wpAnyH_take (i := 3) (v := .int .i64 (z : Nat)) rfl (by kernel_rfl) (by kernel_rfl) (by kernel_rfl) (fun _ _ _ h => h) (Or.inl ⟨by rfl, fun w hSw => by have c := hSw.1; go_simp⟩) (by assumption) ?_
          (try simp only [Act.put, List.getElem_toArray, List.getElem_cons_zero, List.getElem_cons_succ, List.setIfInBounds_toArray, List.set_cons_zero, List.set_cons_succ])
          refine wpAnyH_take (i := 4) (v := ?_) rfl (by kernel_rfl) (by kernel_rfl) (by kernel_rfl) (fun _ _ _ h => h) (Or.inl ⟨by rfl, ?_⟩) (by assumption) ?_
          rotate_left
          · (intro w hSw; (try dsimp only at hSw); go_simp; (try with_reducible rfl))
          (try simp only [Act.put, List.getElem_toArray, List.getElem_cons_zero, List.getElem_cons_succ, List.setIfInBounds_toArray, List.set_cons_zero, List.set_cons_succ])
          refine wpAnyH_take (i := 5) (v := ?_) rfl (by kernel_rfl) (by kernel_rfl) (by kernel_rfl) (fun _ _ _ h => h) (Or.inl ⟨by rfl, ?_⟩) (by assumption) ?_
          rotate_left
          · (intro w hSw; (try dsimp only at hSw); go_simp; (try with_reducible rfl))
          (try simp only [Act.put, List.getElem_toArray, List.getElem_cons_zero, List.getElem_cons_succ, List.setIfInBounds_toArray, List.set_cons_zero, List.set_cons_succ])
          refine wpAnyH_take (i := 6) (v := ?_) rfl (by kernel_rfl) (by kernel_rfl) (by kernel_rfl) (fun _ _ _ h => h) (Or.inl ⟨by rfl, ?_⟩) (by assumption) ?_
          rotate_left
          · (intro w hSw; (try dsimp only at hSw); go_simp; (try with_reducible rfl))
          (try simp only [Act.put, List.getElem_toArray, List.getElem_cons_zero, List.getElem_cons_succ, List.setIfInBounds_toArray, List.set_cons_zero, List.set_cons_succ])
          refine wpAnyH_take (i := 7) (v := ?_) rfl (by kernel_rfl) (by kernel_rfl) (by kernel_rfl) (fun _ _ _ h => h) (Or.inl ⟨by rfl, ?_⟩) (by assumption) ?_
          rotate_left
          · (intro w hSw; (try dsimp only at hSw); go_simp; (try with_reducible rfl))
          (try simp only [Act.put, List.getElem_toArray, List.getElem_cons_zero, List.getElem_cons_succ, List.setIfInBounds_toArray, List.set_cons_zero, List.set_cons_succ])
          refine wpAnyH_take (i := 8) (v := ?_) rfl (by kernel_rfl) (by kernel_rfl) (by kernel_rfl) (fun _ _ _ h => h) (Or.inl ⟨by rfl, ?_⟩) (by assumption) ?_
          rotate_left
          · (intro w hSw; (try dsimp only at hSw); go_simp; (try with_reducible rfl))
          (try simp only [Act.put, List.getElem_toArray, List.getElem_cons_zero, List.getElem_cons_succ, List.setIfInBounds_toArray, List.set_cons_zero, List.set_cons_succ])
          refine wpAnyH_take (i := 9) (v := .string x.t) rfl (by kernel_rfl) (by kernel_rfl) (by kernel_rfl) (fun _ _ _ h => h) (Or.inl ⟨by rfl, fun w hSw => by have c := hSw.2; go_simp⟩) (by assumption) ?_
          (try simp only [Act.put, List.getElem_toArray, List.getElem_cons_zero, List.getElem_cons_succ, List.setIfInBounds_toArray, List.set_cons_zero, List.set_cons_succ])
          refine wpAnyH_take (i := 10) (v := ?_) rfl (by kernel_rfl) (by kernel_rfl) (by kernel_rfl) (fun _ _ _ h => h) (Or.inl ⟨by rfl, ?_⟩) (by assumption) ?_
          rotate_left
          · (intro w hSw; (try dsimp only at hSw); go_simp; (try with_reducible rfl))
          (try simp only [Act.put, List.getElem_toArray, List.getElem_cons_zero, List.getElem_cons_succ, List.setIfInBounds_toArray, List.set_cons_zero, List.set_cons_succ])
          refine wpAnyH_take (i := 11) (v := ?_) rfl (by kernel_rfl) (by kernel_rfl) (by kernel_rfl) (fun _ _ _ h => h) (Or.inl ⟨by rfl, ?_⟩) (by assumption) ?_
          rotate_left
          · (intro w hSw; (try dsimp only at hSw); go_simp; (try with_reducible rfl))
          (try simp only [Act.put, List.getElem_toArray, List.getElem_cons_zero, List.getElem_cons_succ, List.setIfInBounds_toArray, List.set_cons_zero, List.set_cons_succ])
          refine wpAnyH_take (i := 12) (v := ?_) rfl (by kernel_rfl) (by kernel_rfl) (by kernel_rfl) (fun _ _ _ h => h) (Or.inl ⟨by rfl, ?_⟩) (by assumption) ?_
          rotate_left
          · (intro w hSw; (try dsimp only at hSw); go_simp; (try with_reducible rfl))
          (try simp only [Act.put, List.getElem_toArray, List.getElem_cons_zero, List.getElem_cons_succ, List.setIfInBounds_toArray, List.set_cons_zero, List.set_cons_succ])
          refine wpAnyH_take (i := 13) (v := ?_) rfl (by kernel_rfl) (by kernel_rfl) (by kernel_rfl) (fun _ _ _ h => h) (Or.inl ⟨by rfl, ?_⟩) (by assumption) ?_
          rotate_left
          · (intro w hSw; (try dsimp only at hSw); go_simp; (try with_reducible rfl))
          (try simp only [Act.put, List.getElem_toArray, List.getElem_cons_zero, List.getElem_cons_succ, List.setIfInBounds_toArray, List.set_cons_zero, List.set_cons_succ])
          refine wpAnyH_done (by kernel_rfl) ?_ _
          refine NoPanic.normal ?_
          go_wp2
          go_roundw
          case rel => exact ⟨k + 1, by omega, by rw [HR1.out], hbd, Bkd⟩
          case measure => simp [intOf]; have := HR1.out; omega
        · have hkl : k + 1 = l.length := by omega
          have hte := HTE.out
          rw [← hkl] at hte
          obtain ⟨R1, hR1⟩ : ∃ R1, R1 = k + 1 := ⟨_, rfl⟩
          have hw1 : IntKind.i64.wrap ((k : Int) + 1) = (R1 : Int) := by rw [hR1, IntKind.wrap_i64] <;> omega
          have d3 : decide ((R1 : Int) < (l.length : Int)) = false := decide_eq_false (by omega)
          have n3 : ¬ R1 < l.length := by omega
          generalize OF[k] = z at *
          generalize l[k] = x at *
          obtain ⟨V1, hV1⟩ : ∃ V1, V1 = z + 2 := ⟨_, rfl⟩
          have a1w : IntKind.i64.wrap ((z : Int) + 2) = (V1 : Int) := by rw [hV1, IntKind.wrap_i64] <;> omega
          have a2w : IntKind.i64.wrap ((V1 : Int) + (x.t.size : Int)) = (T : Int) := by rw [IntKind.wrap_i64] <;> omega
          have d4 : ((T : Int) != (T : Int)) = false := by simp
          have HR1 := Lib.hid hR1
          clear HNX HGE HR HTL HTE hatl hata hnx htk hte hkl hR1 hV1 hTT hOF
          go_upto_region 16 with (fail)
          refine wp_region_noPanic ?_
          refine wp_region_held_drew (S := (fun w' => w'.cell? ⟨ba, oa + k, none⟩ = some (.int .i64 (z : Nat)) ∧ w'.cell? ⟨bl, ol + k * 2 + 1, none⟩ = some (.string x.t))) (by kernel_rfl) ?_ (fun hHeld => ?_)
          · exact ⟨KZ, KS⟩
          refine wpAnyH_take (i := 0) (v := ?_) rfl (by kernel_rfl) (by kernel_rfl) (by kernel_rfl) (fun _ _ _ h => h) (Or.inl ⟨by rfl, ?_⟩) (by assumption) ?_
          rotate_left
          · (intro w hSw; (try dsimp only at hSw); go_simp; (try with_reducible rfl))
          (try simp only [Act.put, List.getElem_toArray, List.getElem_cons_zero, List.getElem_cons_succ, List.setIfInBounds_toArray, List.set_cons_zero, List.set_cons_succ])
          refine wpAnyH_take (i := 1) (v := ?_) rfl (by kernel_rfl) (by kernel_rfl) (by kernel_rfl) (fun _ _ _ h => h) (Or.inl ⟨by rfl, ?_⟩) (by assumption) ?_
          rotate_left
          · (intro w hSw; (try dsimp only at hSw); go_simp; (try with_reducible rfl))
          (try simp only [Act.put, List.getElem_toArray, List.getElem_cons_zero, List.getElem_cons_succ, List.setIfInBounds_toArray, List.set_cons_zero, List.set_cons_succ])
          refine wpAnyH_take (i := 2) (v := ?_) rfl (by kernel_rfl) (by kernel_rfl) (by kernel_rfl) (fun _ _ _ h => h) (Or.inl ⟨by rfl, ?_⟩) (by assumption) ?_
          rotate_left
          · (intro w hSw; (try dsimp only at hSw); go_simp; (try with_reducible rfl))
          (try simp only [Act.put, List.getElem_toArray, List.getElem_cons_zero, List.getElem_cons_succ, List.setIfInBounds_toArray, List.set_cons_zero, List.set_cons_succ])
          refine wpAnyH_take (i := 3) (v := .int .i64 (z : Nat)) rfl (by kernel_rfl) (by kernel_rfl) (by kernel_rfl) (fun _ _ _ h => h) (Or.inl ⟨by rfl, fun w hSw => by have c := hSw.1; go_simp⟩) (by assumption) ?_
          (try simp only [Act.put, List.getElem_toArray, List.getElem_cons_zero, List.getElem_cons_succ, List.setIfInBounds_toArray, List.set_cons_zero, List.set_cons_succ])
          refine wpAnyH_take (i := 4) (v := ?_) rfl (by kernel_rfl) (by kernel_rfl) (by kernel_rfl) (fun _ _ _ h => h) (Or.inl ⟨by rfl, ?_⟩) (by assumption) ?_
          rotate_left
          · (intro w hSw; (try dsimp only at hSw); go_simp; (try with_reducible rfl))
          (try simp only [Act.put, List.getElem_toArray, List.getElem_cons_zero, List.getElem_cons_succ, List.setIfInBounds_toArray, List.set_cons_zero, List.set_cons_succ])
          refine wpAnyH_take (i := 5) (v := ?_) rfl (by kernel_rfl) (by kernel_rfl) (by kernel_rfl) (fun _ _ _ h => h) (Or.inl ⟨by rfl, ?_⟩) (by assumption) ?_
          rotate_left
          · (intro w hSw; (try dsimp only at hSw); go_simp; (try with_reducible rfl))
          (try simp only [Act.put, List.getElem_toArray, List.getElem_cons_zero, List.getElem_cons_succ, List.setIfInBounds_toArray, List.set_cons_zero, List.set_cons_succ])
          refine wpAnyH_take (i := 6) (v := ?_) rfl (by kernel_rfl) (by kernel_rfl) (by kernel_rfl) (fun _ _ _ h => h) (Or.inl ⟨by rfl, ?_⟩) (by assumption) ?_
          rotate_left
          · (intro w hSw; (try dsimp only at hSw); go_simp; (try with_reducible rfl))
          (try simp only [Act.put, List.getElem_toArray, List.getElem_cons_zero, List.getElem_cons_succ, List.setIfInBounds_toArray, List.set_cons_zero, List.set_cons_succ])
          refine wpAnyH_take (i := 7) (v := ?_) rfl (by kernel_rfl) (by kernel_rfl) (by kernel_rfl) (fun _ _ _ h => h) (Or.inl ⟨by rfl, ?_⟩) (by assumption) ?_
          rotate_left
          · (intro w hSw; (try dsimp only at hSw); go_simp; (try with_reducible rfl))
          (try simp only [Act.put, List.getElem_toArray, List.getElem_cons_zero, List.getElem_cons_succ, List.setIfInBounds_toArray, List.set_cons_zero, List.set_cons_succ])
          refine wpAnyH_take (i := 8) (v := ?_) rfl (by kernel_rfl) (by kernel_rfl) (by kernel_rfl) (fun _ _ _ h => h) (Or.inl ⟨by rfl, ?_⟩) (by assumption) ?_
          rotate_left
          · (intro w hSw; (try dsimp only at hSw); go_simp; (try with_reducible rfl))
          (try simp only [Act.put, List.getElem_toArray, List.getElem_cons_zero, List.getElem_cons_succ, List.setIfInBounds_toArray, List.set_cons_zero, List.set_cons_succ])
          refine wpAnyH_take (i := 9) (v := .string x.t) rfl (by kernel_rfl) (by kernel_rfl) (by kernel_rfl) (fun _ _ _ h => h) (Or.inl ⟨by rfl, fun w hSw => by have c := hSw.2; go_simp⟩) (by assumption) ?_
          (try simp only [Act.put, List.getElem_toArray, List.getElem_cons_zero, List.getElem_cons_succ, List.setIfInBounds_toArray, List.set_cons_zero, List.set_cons_succ])
          refine wpAnyH_take (i := 10) (v := ?_) rfl (by kernel_rfl) (by kernel_rfl) (by kernel_rfl) (fun _ _ _ h => h) (Or.inl ⟨by rfl, ?_⟩) (by assumption) ?_
          rotate_left
          · (intro w hSw; (try dsimp only at hSw); go_simp; (try with_reducible rfl))
          (try simp only [Act.put, List.getElem_toArray, List.getElem_cons_zero, List.getElem_cons_succ, List.setIfInBounds_toArray, List.set_cons_zero, List.set_cons_succ])
          refine wpAnyH_take (i := 11) (v := ?_) rfl (by kernel_rfl) (by kernel_rfl) (by kernel_rfl) (fun _ _ _ h => h) (Or.inl ⟨by rfl, ?_⟩) (by assumption) ?_
          rotate_left
          · (intro w hSw; (try dsimp only at hSw); go_simp; (try with_reducible rfl))
          (try simp only [Act.put, List.getElem_toArray, List.getElem_cons_zero, List.getElem_cons_succ, List.setIfInBounds_toArray, List.set_cons_zero, List.set_cons_succ])
          refine wpAnyH_take (i := 12) (v := ?_) rfl (by kernel_rfl) (by kernel_rfl) (by kernel_rfl) (fun _ _ _ h => h) (Or.inl ⟨by rfl, ?_⟩) (by assumption) ?_
          rotate_left
          · (intro w hSw; (try dsimp only at hSw); go_simp; (try with_reducible rfl))
          (try simp only [Act.put, List.getElem_toArray, List.getElem_cons_zero, List.getElem_cons_succ, List.setIfInBounds_toArray, List.set_cons_zero, List.set_cons_succ])
          refine wpAnyH_take (i := 13) (v := ?_) rfl (by kernel_rfl) (by kernel_rfl) (by kernel_rfl) (fun _ _ _ h => h) (Or.inl ⟨by rfl, ?_⟩) (by assumption) ?_
          rotate_left
          · (intro w hSw; (try dsimp only at hSw); go_simp; (try with_reducible rfl))
          (try simp only [Act.put, List.getElem_toArray, List.getElem_cons_zero, List.getElem_cons_succ, List.setIfInBounds_toArray, List.set_cons_zero, List.set_cons_succ])
          refine wpAnyH_done (by kernel_rfl) ?_ _
          refine NoPanic.normal ?_
          go_wp2
          go_roundw
          case rel => exact ⟨k + 1, by omega, by rw [HR1.out], hbd, Bkd⟩
          case measure => simp [intOf]; have := HR1.out; omega
      · obtain rfl : k = l.length := by omega
        have q2 : decide ((l.length : Int) < (l.length : Int)) = false := decide_eq_false (by omega)
        clear HR HW HE HNX HGE HTL HTE hTT hOF hXl e1w
        go_wp2_with fail
        refine (HS.out _).mono ?_
        rintro e t1 ⟨v1, v2, er, rfl, O1, O2, hp1, k1⟩
        have T1 := Bk.trans (k1.mono Bk.size)
        obtain ⟨a1, c1, hv1, J1⟩ := O1.inL
        subst hv1
        clear O1 O2
        rcases hSR with ⟨hm0, he0⟩ | ⟨he0, hpl0, hmok, hmw, hml, hmlen, hfin⟩
        · rcases hp1 with ⟨_, q, _⟩ | ⟨_, q, rfl, _⟩
          · exact absurd q he0
          have dm : ((m.length : Int) == 0) = true := by rw [hm0]; rfl
          go_wp2
          go_ret
          exact ⟨rfl, T1⟩
        · rcases hp1 with ⟨rfl, _, _⟩ | ⟨q, _⟩
          rotate_left
          · exact absurd he0 q
          have HM := Lib.hid (fun (W : World) (h : TlIn W a1 m) => tlWrite_any a1 c1 m m.length (Nat.le_refl _) (fun x hx => hmok x (List.mem_of_mem_take hx)) (by omega) (tlWrite m) 0 (-1) (Or.inl ⟨rfl, rfl, rfl, rfl⟩) W h)
          have hl2 : ((⟨(tlWrite m).toArray⟩ : ByteArray).size : Int) = (fin : Int) + 2 := by
            show (((tlWrite m).toArray.size : Nat) : Int) = _
            rw [List.size_toArray, hml]
            omega
          have hP : Hid (Lib.hasPrefix s.data.toList (tlWrite m) = true) := hmw
          have hww : IntKind.i64.wrap ((fin : Int) + 2) = (fin : Int) + 2 := by rw [IntKind.wrap_i64] <;> omega
          have hee : (((fin : Int) + 2) == ((fin : Int) + 2)) = true := by simp
          clear hmok hmw hml
          generalize tlWrite m = X at *
          go_wp2_with fail
          refine (HM.out _ J1).mono ?_
          rintro e t2 ⟨er2, rfl, hp2, k2⟩
          have T2 := T1.trans (k2.mono T1.size)
          rcases hp2 with ⟨rfl, _, _⟩ | ⟨q, _⟩
          rotate_left
          · exact absurd rfl q
          go_wp2_with fail
          refine (Tryd.strings_HasPrefix s ⟨X.toArray⟩ _).mono ?_
          rintro e t3 ⟨rfl, rfl⟩
          have hP2 : Lib.hasPrefix s.data.toList (⟨X.toArray⟩ : ByteArray).data.toList = true := hP.out
          rw [hP2]
          go_wp2
          go_ret
          exact ⟨rfl, T2⟩
  · have HW := Lib.hid (fun (W : World) (h : TlIn W a l) => tlWrite_any a c l k0 (by omega) hok (by omega) [] 1 k0 (Or.inr ⟨hk0, hno, rfl, rfl, rfl⟩) W h)
    clear hok hno
    go_enter Tryd.func5, Tryd.ntmps5
    go_wp2_with fail
    refine (HL.out _).mono ?_
    rintro e w1 ⟨rfl, b1⟩
    go_wp2_with fail
    refine (HF.out _ (h.below b1)).mono ?_
    rintro e w2 ⟨rfl, b2⟩
    have B2 := b1.trans (b2.mono b1.size)
    clear b1 b2
    go_wp2_with fail
    refine (HW.out _ (h.below B2)).mono ?_
    rintro e w3 ⟨er, rfl, hp3, b3⟩
    have B3 := B2.trans (b3.mono B2.size)
    rcases hp3 with ⟨_, q, _⟩ | ⟨_, q, rfl, _⟩
    · exact absurd q (by decide)
    clear HW HF HL
    go_wp2_with fail
    refine (HS.out _).mono ?_
    rintro e t1 ⟨v1, v2, er, rfl, O1, O2, hp1, k1⟩
    have T1 := B3.trans (k1.mono B3.size)
    obtain ⟨a1, c1, hv1, J1⟩ := O1.inL
    subst hv1
    clear O1 O2
    rcases hSR with ⟨hm0, he0⟩ | ⟨he0, hpl0, hmok, hmw, hml, hmlen, hfin⟩
    · rcases hp1 with ⟨_, q, _⟩ | ⟨_, q, rfl, _⟩
      · exact absurd q he0
      have dm : ((m.length : Int) == 0) = true := by rw [hm0]; rfl
      go_wp2
      go_ret
      exact ⟨rfl, T1⟩
    · rcases hp1 with ⟨rfl, _, _⟩ | ⟨q, _⟩
      rotate_left
      · exact absurd he0 q
      have HM := Lib.hid (fun (W : World) (h : TlIn W a1 m) => tlWrite_any a1 c1 m m.length (Nat.le_refl _) (fun x hx => hmok x (List.mem_of_mem_take hx)) (by omega) (tlWrite m) 0 (-1) (Or.inl ⟨rfl, rfl, rfl, rfl⟩) W h)
      have hl2 : ((⟨(tlWrite m).toArray⟩ : ByteArray).size : Int) = (fin : Int) + 2 := by
        show (((tlWrite m).toArray.size : Nat) : Int) = _
        rw [List.size_toArray, hml]
        omega
      have hP : Hid (Lib.hasPrefix s.data.toList (tlWrite m) = true) := hmw
      have hww : IntKind.i64.wrap ((fin : Int) + 2) = (fin : Int) + 2 := by rw [IntKind.wrap_i64] <;> omega
      have hee : (((fin : Int) + 2) == ((fin : Int) + 2)) = true := by simp
      clear hmok hmw hml
      generalize tlWrite m = X at *
      go_wp2_with fail
      refine (HM.out _ J1).mono ?_
      rintro e t2 ⟨er2, rfl, hp2, k2⟩
      have T2 := T1.trans (k2.mono T1.size)
      rcases hp2 with ⟨rfl, _, _⟩ | ⟨q, _⟩
      rotate_left
      · exact absurd rfl q
      go_wp2_with fail
      refine (Tryd.strings_HasPrefix s ⟨X.toArray⟩ _).mono ?_
      rintro e t3 ⟨rfl, rfl⟩
      have hP2 : Lib.hasPrefix s.data.toList (⟨X.toArray⟩ : ByteArray).data.toList = true := hP.out
      rw [hP2]
      go_wp2
      go_ret
      exact ⟨rfl, T2⟩

end Go.Proofs.YticjmjoiggnblaaDoor.tlvBack
