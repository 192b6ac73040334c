/- Bridges of plain ports, plainly; what a table knows behind two lessons. -/
import Derived.Test.YtdceggekhhflgaaOutM
import Derived.Test.YtdceggekhhflgaaPp
namespace Go.Proofs.Ytdceggekhhflgaa
open Go.RowKit
set_option linter.unusedSimpArgs false
set_option linter.unusedVariables false
set_option maxRecDepth 100000

def pSt (st : Int) : Ps := ⟨1, [1, 2], [1], st⟩

def ps5 (k : Nat) (st : Int) : List Ps := (List.replicate 5 pP).set k (pSt st)

theorem pSt_ok (st : Int) (h : stB st = true) : okPs (pSt st) = true := by
  unfold okPs pSt
  simp only [h]
  decide

theorem ps5_len (k : Nat) (st : Int) : (ps5 k st).length = 5 := by simp [ps5]

theorem ps5_ok (k : Nat) (st : Int) (h : stB st = true) : ∀ p ∈ ps5 k st, okPs p = true := by
  intro p hp
  rcases List.mem_or_eq_of_mem_set hp with q | rfl
  · rw [(List.mem_replicate.1 q).2]; exact pP_ok
  · exact pSt_ok st h

theorem ps5_at (k : Nat) (st : Int) (hk : k < 5) : (ps5 k st).getD k zPs = pSt st := by
  unfold ps5
  rw [List.getD_eq_getElem?_getD, List.getElem?_set_self (by simpa using hk)]
  rfl

theorem ps5_other (k j : Nat) (st : Int) (hj : j < 5) (h : j ≠ k) : (ps5 k st).getD j zPs = pP := by
  unfold ps5
  rw [List.getD_eq_getElem?_getD, List.getElem?_set_ne (by omega), List.getElem?_replicate, if_pos hj]
  rfl

theorem rep5_at (j : Nat) (hj : j < 5) : (List.replicate 5 pP).getD j zPs = pP := by
  rw [List.getD_eq_getElem?_getD, List.getElem?_replicate, if_pos hj]
  rfl

theorem set_map (hs : List PsH) (k : Nat) (hk : k < hs.length) (st : Int) (h : hs.map PsH.x = List.replicate 5 pP) : (hs.set k (setSt hs[k] st)).map PsH.x = ps5 k st := by
  rw [List.map_set, h]
  unfold ps5
  have e : hs[k].x = pP := by
    have hm : hs[k].x ∈ hs.map PsH.x := List.mem_map.2 ⟨_, List.getElem_mem hk, rfl⟩
    rw [h] at hm
    exact (List.mem_replicate.1 hm).2
  unfold setSt
  rw [e]
  rfl

theorem resv_dst (t : Tr) : resv (dstF t) = -1 := by
  unfold resv
  rw [if_neg]
  rintro ⟨_, h⟩
  have h0 := congrArg (·.head?) h
  simp only [six, List.head?_cons, Option.some.injEq] at h0
  have h1 : knownF (dstF t 5) 0 = 1 := rfl
  rw [h1] at h0
  unfold dstF at h0
  split at h0
  · omega
  · have h2 : adF t.to 0 = 2 := rfl
    omega

theorem dead_iff (p : Ps) (vid : Int) (t : Tr) : deadB p vid (dstF t) = ((p.st == 1) || (vid == 0)) := by
  unfold deadB
  rw [resv_dst]
  simp

/-- Learned twice is learned once. -/
theorem rest_rest (age : Int) (E : List Ent) (vid : Int) (a : Nat → Nat) (now : Int) (l : List Ent) (h : ∀ e ∈ l, goneE age now vid a e = false) : restM age l vid a now = l := by
  unfold restM
  rw [List.filter_eq_self]
  intro e he
  rw [h e he]
  rfl

theorem rest_gone {age : Int} {E : List Ent} {vid : Int} {a : Nat → Nat} {now : Int} : ∀ e ∈ restM age E vid a now, goneE age now vid a e = false := by
  intro e he
  have := (List.mem_filter.1 he).2
  simpa using this

theorem room_id {m : List Ent} (h : m.length ≤ 31) : roomM m = m := by
  unfold roomM
  rw [if_neg (by omega)]

theorem restM_len {age : Int} {E : List Ent} {vid : Int} {a : Nat → Nat} {now : Int} (h : E.length ≤ 32) : (restM age E vid a now).length ≤ 32 := Nat.le_trans (List.length_filter_le _ _) h

theorem learn_twice (age : Int) (E : List Ent) (vid : Int) (a : Nat → Nat) (port now : Int) (h : E.length ≤ 32) : learnM age (learnM age E vid a port now) vid a port now = learnM age E vid a port now := by
  have hl := roomM_len (restM age E vid a now) (restM_len h)
  have e1 : restM age (learnM age E vid a port now) vid a now = roomM (restM age E vid a now) := by
    have h1 := rest_rest age E vid a now (roomM (restM age E vid a now)) (fun e he => rest_gone e (roomM_sub _ e he))
    unfold learnM
    unfold restM at h1 ⊢
    rw [List.filter_append]
    rw [h1]
    have h2 : List.filter (fun e => !(goneE age now vid a e)) [(⟨vid, a, port, now⟩ : Ent)] = [] := by
      rw [List.filter_eq_nil_iff]
      intro e he
      rw [List.mem_singleton.1 he]
      have : keyE vid a ⟨vid, a, port, now⟩ = true := keyE_self ⟨vid, a, port, now⟩
      simp [goneE, this]
    rw [h2, List.append_nil]
  have e2 : learnM age (learnM age E vid a port now) vid a port now = roomM (restM age (learnM age E vid a port now) vid a now) ++ [⟨vid, a, port, now⟩] := rfl
  rw [e2, e1, room_id hl]
  rfl

/-- Who was heard before is known still. -/
theorem look_kept (age : Int) (E : List Ent) (vid : Int) (a b : Nat → Nat) (p q now : Int) (hage : 1 ≤ age) (h : E.length ≤ 32) (hab : eqN 6 b a = false) :
    lookM age (learnM age (learnM age E vid b p now) vid a q now) vid b now = p := by
  have hl := roomM_len (restM age E vid b now) (restM_len h)
  have halive : aliveE age now (⟨vid, b, p, now⟩ : Ent) = true := alive_now hage rfl
  have hkey : keyE vid a (⟨vid, b, p, now⟩ : Ent) = false := by
    unfold keyE
    simp [hab]
  obtain ⟨X, hX, hXn, hXl⟩ : ∃ X, restM age (learnM age E vid b p now) vid a now = X ++ [⟨vid, b, p, now⟩] ∧ (∀ e ∈ X, goneE age now vid b e = false) ∧ X.length ≤ 31 := by
    refine ⟨(roomM (restM age E vid b now)).filter fun e => !(goneE age now vid a e), ?_, ?_, Nat.le_trans (List.length_filter_le _ _) hl⟩
    · unfold learnM
      conv => lhs; unfold restM
      rw [List.filter_append]
      congr 1
      simp [goneE, halive, hkey]
    · intro e he
      exact rest_gone e (roomM_sub _ e (List.mem_filter.1 he).1)
  obtain ⟨Y, hY, hYn⟩ : ∃ Y, roomM (X ++ [(⟨vid, b, p, now⟩ : Ent)]) = Y ++ [⟨vid, b, p, now⟩] ∧ ∀ e ∈ Y, goneE age now vid b e = false := by
    unfold roomM
    split
    · rename_i h32
      rw [List.length_append] at h32
      simp only [List.length_cons, List.length_nil] at h32
      refine ⟨X.drop 1, ?_, fun e he => hXn e (List.mem_of_mem_drop he)⟩
      rw [List.drop_append_of_le_length (by omega)]
    · exact ⟨X, rfl, hXn⟩
  unfold lookM
  conv => lhs; arg 1; arg 2; unfold learnM
  rw [show restM age (roomM (restM age E vid b now) ++ [(⟨vid, b, p, now⟩ : Ent)]) vid a now = X ++ [⟨vid, b, p, now⟩] from hX, hY]
  rw [List.append_assoc, List.find?_append]
  have hnone : Y.find? (fun e => keyE vid b e && aliveE age now e) = none := by
    rw [List.find?_eq_none]
    intro e he
    have := hYn e he
    unfold goneE at this
    simp only [Bool.or_eq_false_iff] at this
    simp [this.2]
  rw [hnone]
  have hk : keyE vid b (⟨vid, b, p, now⟩ : Ent) = true := keyE_self ⟨vid, b, p, now⟩
  simp [hk, halive]

end Go.Proofs.Ytdceggekhhflgaa
