/- A bridge behind trips, plainly. -/
import Derived.Test.YtdceggekhhflgaaTrM
namespace Go.Proofs.Ytdceggekhhflgaa
open Go.RowKit
set_option linter.unusedSimpArgs false
set_option linter.unusedVariables false
set_option maxRecDepth 100000

theorem memB_iff {l : List Int} {v : Int} : memB l v = true ↔ v ∈ l := by
  unfold memB
  rw [List.any_eq_true]
  constructor
  · rintro ⟨x, hx, he⟩
    have : x = v := by simpa using he
    rw [← this]; exact hx
  · intro h
    exact ⟨v, h, by simp⟩

theorem listB_vid {l : List Int} (h : listB l = true) {v : Int} (hv : v ∈ l) : 1 ≤ v ∧ v ≤ 4094 := by
  unfold listB riseB at h
  simp only [Bool.and_eq_true, decide_eq_true_eq] at h
  obtain ⟨k, hk, rfl⟩ := List.getElem_of_mem hv
  have := List.all_eq_true.1 h.2 k (List.mem_range.2 hk)
  rw [upAt_at hk] at this
  simp only [Bool.and_eq_true] at this
  have h1 := this.1
  unfold vidB at h1
  simpa using h1

theorem okPs_in {p : Ps} (h : okPs p = true) : listB p.inn = true := by
  unfold okPs at h
  simp only [Bool.and_eq_true] at h
  exact h.2.2.1

theorem vidM_ok {ps : List Ps} (h : ∀ p ∈ ps, okPs p = true) (port : Int) (tl : List Tg) : vidM ps port tl = 0 ∨ (1 ≤ vidM ps port tl ∧ vidM ps port tl ≤ 4094) := by
  unfold vidM
  split
  · rename_i hb
    unfold vidP
    simp only
    generalize (if (firstT tl).v = 0 then (ps.getD port.toNat zPs).pv else (firstT tl).v) = v
    split
    · exact Or.inl rfl
    · rename_i hn
      right
      simp only [Bool.or_eq_true, Bool.not_eq_true', not_or, Bool.not_eq_true, Bool.not_eq_false] at hn
      have hlt : port.toNat < ps.length := by
        unfold hasB at hb
        simp only [Bool.and_eq_true, decide_eq_true_eq] at hb
        omega
      have hm : ps.getD port.toNat zPs ∈ ps := by
        rw [List.getD_eq_getElem?_getD, List.getElem?_eq_getElem hlt]
        exact List.getElem_mem hlt
      exact listB_vid (okPs_in (h _ hm)) (memB_iff.1 hn.2)
  · exact Or.inl rfl

theorem hasB_nat {n k : Nat} (h : k < n) : hasB n (k : Int) = true := by
  unfold hasB
  rw [decide_eq_true (by omega), decide_eq_true (by omega)]
  rfl

/-- What a bridge answers to a trip's frame, where time has not gone back. -/
theorem in_live {ps : List Ps} {k : Nat} (hk : k < ps.length) (age last now : Int) (E : List Ent) (t : Tr) (ta : Option Addr) (tc : Nat) :
    inM ps age last E (k : Int) (carF t ta tc) now = liveM ps age last E (k : Int) (carF t ta tc) now (ps.getD k zPs) := by
  unfold inM
  rw [hasB_nat hk, carF_right, if_neg (by simp), if_neg (by simp)]
  rfl

theorem in_cases {ps : List Ps} (h : ∀ p ∈ ps, okPs p = true) {k : Nat} (hk : k < ps.length) (h8 : ps.length ≤ 8) {last now : Int} (h0 : 0 ≤ last) (h1 : last ≤ now) (h2 : now ≤ 1000000) (E : List Ent) (t : Tr) (ta : Option Addr) (tc : Nat) :
    (deadB (ps.getD k zPs) (vidM ps (k : Int) (tagM t)) (dstF t) = true ∧ inM ps 100 last E (k : Int) (carF t ta tc) now = ⟨0, last, E, []⟩) ∨
    (deadB (ps.getD k zPs) (vidM ps (k : Int) (tagM t)) (dstF t) = false ∧ 1 ≤ vidM ps (k : Int) (tagM t) ∧ vidM ps (k : Int) (tagM t) ≤ 4094 ∧
      inM ps 100 last E (k : Int) (carF t ta tc) now = ⟨0, now, learnM 100 E (vidM ps (k : Int) (tagM t)) (adF t.frm) (k : Int) now, if (ps.getD k zPs).st = 3 then outM (lookM 100 (learnM 100 E (vidM ps (k : Int) (tagM t)) (adF t.frm) (k : Int) now) (vidM ps (k : Int) (tagM t)) (dstF t) now) (k : Int) (vidM ps (k : Int) (tagM t)) ps else []⟩) := by
  rw [in_live hk]
  have hv := vidM_ok h (k : Int) (tagM t)
  have hg := carF_grp t ta tc
  unfold liveM
  simp only [hg]
  show _ ∨ _
  cases hd : deadB (ps.getD k zPs) (vidM ps (k : Int) (tagM t)) (dstF t) with
  | true =>
    left
    refine ⟨rfl, ?_⟩
    rw [if_pos (show deadB (ps.getD k zPs) (vidM ps (k : Int) (carF t ta tc).tl) (carF t ta tc).d = true from hd)]
  | false =>
    right
    have hne : vidM ps (k : Int) (tagM t) ≠ 0 := by
      intro e
      unfold deadB at hd
      simp [e] at hd
    have hv' := hv.resolve_left hne
    refine ⟨rfl, hv'.1, hv'.2, ?_⟩
    rw [if_neg (show ¬ deadB (ps.getD k zPs) (vidM ps (k : Int) (carF t ta tc).tl) (carF t ta tc).d = true by rw [show (carF t ta tc).tl = tagM t from rfl, show (carF t ta tc).d = dstF t from rfl, hd]; simp)]
    have he : learnErr last (vidM ps (k : Int) (tagM t)) (adF t.frm) (k : Int) now = 0 := by
      have := adF_even t.frm
      unfold learnErr
      rw [if_neg (by omega), if_neg (by omega), if_neg (by omega)]
    simp only [Bool.false_eq_true, if_false, show (carF t ta tc).tl = tagM t from rfl, show (carF t ta tc).s = adF t.frm from rfl, show (carF t ta tc).d = dstF t from rfl, he, ne_eq, not_true_eq_false]
    split <;> rfl

theorem in_fine {ps : List Ps} (h : ∀ p ∈ ps, okPs p = true) {k : Nat} (hk : k < ps.length) (h8 : ps.length ≤ 8) {last now : Int} (h0 : 0 ≤ last) (h1 : last ≤ now) (h2 : now ≤ 1000000) (E : List Ent) (t : Tr) (ta : Option Addr) (tc : Nat) :
    (inM ps 100 last E (k : Int) (carF t ta tc) now).err = 0 ∧ 0 ≤ (inM ps 100 last E (k : Int) (carF t ta tc) now).last ∧ (inM ps 100 last E (k : Int) (carF t ta tc) now).last ≤ now := by
  rcases in_cases h hk h8 h0 h1 h2 E t ta tc with ⟨_, e⟩ | ⟨_, _, _, e⟩ <;> rw [e]
  · exact ⟨rfl, h0, h1⟩
  · exact ⟨rfl, by show 0 ≤ now; omega, Int.le_refl _⟩

/-- A bridge behind a trip: when it heard last, what it knows, the time. -/
def srvStep (ps : List Ps) (s : Int × List Ent × Int) (t : Tr) : Int × List Ent × Int :=
  ((inM ps 100 s.1 s.2.1 (pickN t.port ps.length : Nat) (carF t none 0) (s.2.2 + pickN t.after 20)).last, (inM ps 100 s.1 s.2.1 (pickN t.port ps.length : Nat) (carF t none 0) (s.2.2 + pickN t.after 20)).E, s.2.2 + pickN t.after 20)

def srvM (ps : List Ps) (l : List Tr) : Int × List Ent × Int := l.foldl (srvStep ps) (0, [], 0)

theorem srv_take {ps : List Ps} {l : List Tr} {k : Nat} {x : Tr} (h : l[k]? = some x) : srvM ps (l.take (k + 1)) = srvStep ps (srvM ps (l.take k)) x := by
  rw [List.take_add_one, h]
  simp [srvM]

/-- What stands of it. -/
structure SrvOk (s : Int × List Ent × Int) (n : Nat) : Prop where
  last0 : 0 ≤ s.1
  last1 : s.1 ≤ s.2.2
  now : s.2.2 ≤ 20 * n
  kept : Kept s.2.1 s.1
  even : ∀ e ∈ s.2.1, e.a 0 % 2 = 0

theorem learn_even {age vid port now : Int} {E : List Ent} {a : Nat → Nat} (h : ∀ e ∈ E, e.a 0 % 2 = 0) (ha : a 0 % 2 = 0) : ∀ e ∈ learnM age E vid a port now, e.a 0 % 2 = 0 := by
  intro e he
  unfold learnM at he
  rcases List.mem_append.1 he with q | q
  · exact h e ((List.mem_filter.1 (roomM_sub _ e q)).1)
  · rw [List.mem_singleton.1 q]; exact ha

theorem in_kept {ps : List Ps} (h : ∀ p ∈ ps, okPs p = true) {k : Nat} (hk : k < ps.length) (h8 : ps.length ≤ 8) {last now : Int} (h0 : 0 ≤ last) (h1 : last ≤ now) (h2 : now ≤ 1000000) {E : List Ent} (hK : Kept E last) (he : ∀ e ∈ E, e.a 0 % 2 = 0) (t : Tr) (ta : Option Addr) (tc : Nat) :
    Kept (inM ps 100 last E (k : Int) (carF t ta tc) now).E (inM ps 100 last E (k : Int) (carF t ta tc) now).last ∧ ∀ e ∈ (inM ps 100 last E (k : Int) (carF t ta tc) now).E, e.a 0 % 2 = 0 := by
  rcases in_cases h hk h8 h0 h1 h2 E t ta tc with ⟨_, e⟩ | ⟨_, _, _, e⟩ <;> rw [e]
  · exact ⟨hK, he⟩
  · exact ⟨hK.learn 100 _ _ _ _ (adF_lt _) (by omega) (by omega) (by omega) (by omega) h1, learn_even he (by have := adF_even t.frm; omega)⟩

theorem srv_ok {ps : List Ps} (h : ∀ p ∈ ps, okPs p = true) (h8 : ps.length ≤ 8) (hne : 1 ≤ ps.length) : ∀ (l : List Tr) (s : Int × List Ent × Int) (n : Nat), SrvOk s n → n + l.length ≤ 1000 → SrvOk (l.foldl (srvStep ps) s) (n + l.length)
  | [], s, n, hs, _ => by simpa using hs
  | t :: l, s, n, hs, hn => by
    rw [List.length_cons] at hn
    have hk := pickN_lt t.port ps.length hne
    have ha := pickN_lt t.after 20 (by decide)
    have g0 := hs.last0
    have g1 := hs.last1
    have g2 := hs.now
    have f1 := in_fine h hk h8 g0 (show s.1 ≤ s.2.2 + pickN t.after 20 by omega) (by omega) s.2.1 t none 0
    have f2 := in_kept h hk h8 g0 (show s.1 ≤ s.2.2 + pickN t.after 20 by omega) (by omega) hs.kept hs.even t none 0
    have := srv_ok h h8 hne l (srvStep ps s t) (n + 1) ⟨f1.2.1, f1.2.2, by show s.2.2 + _ ≤ _; omega, f2.1, f2.2⟩ (by omega)
    rw [List.foldl_cons, List.length_cons, show n + (l.length + 1) = n + 1 + l.length by omega]
    exact this

theorem srvM_ok {ps : List Ps} (h : ∀ p ∈ ps, okPs p = true) (h8 : ps.length ≤ 8) (hne : 1 ≤ ps.length) (l : List Tr) (hl : l.length ≤ 1000) : SrvOk (srvM ps l) l.length := by
  have := srv_ok h h8 hne l (0, [], 0) 0 ⟨Int.le_refl _, Int.le_refl _, by simp, Kept.nil 0, by simp⟩ (by omega)
  unfold srvM
  simpa using this

end Go.Proofs.Ytdceggekhhflgaa
