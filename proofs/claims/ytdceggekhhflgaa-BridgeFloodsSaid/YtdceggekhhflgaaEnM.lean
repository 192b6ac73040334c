/- Entries of a table, plainly: what Learn, Look, Forget and Len do with a list of them. -/
import Derived.Test.YtdceggekhhflgaaBy
namespace Go.Proofs.Ytdceggekhhflgaa
set_option linter.unusedSimpArgs false
set_option linter.unusedVariables false

structure Ent where
  vid : Int
  a : Nat → Nat
  port : Int
  time : Int

instance : Inhabited Ent := ⟨⟨0, z6, 0, 0⟩⟩

def zEnt : Ent := ⟨0, z6, 0, 0⟩

theorem eqN_iff (n : Nat) (x y : Nat → Nat) : eqN n x y = true ↔ ∀ i, i < n → x i = y i := by
  unfold eqN
  rw [List.all_eq_true]
  constructor
  · intro h i hi
    have := h i (List.mem_range.2 hi)
    exact Int.ofNat_inj.1 (eq_of_beq this)
  · intro h i hi
    have := h i (List.mem_range.1 hi)
    simp [this]

theorem eqN_symm (n : Nat) (x y : Nat → Nat) : eqN n x y = eqN n y x := by
  rw [Bool.eq_iff_iff, eqN_iff, eqN_iff]
  exact ⟨fun h i hi => (h i hi).symm, fun h i hi => (h i hi).symm⟩

theorem eqN_left {n : Nat} {x y : Nat → Nat} (h : eqN n x y = true) (z : Nat → Nat) : eqN n x z = eqN n y z := by
  rw [eqN_iff] at h
  rw [Bool.eq_iff_iff, eqN_iff, eqN_iff]
  exact ⟨fun k i hi => (h i hi).symm.trans (k i hi), fun k i hi => (h i hi).trans (k i hi)⟩

def keyE (vid : Int) (a : Nat → Nat) (e : Ent) : Bool := e.vid == vid && eqN 6 e.a a

def aliveE (age now : Int) (e : Ent) : Bool := decide (now ≤ e.time + age)

def goneE (age now vid : Int) (a : Nat → Nat) (e : Ent) : Bool := !(aliveE age now e) || keyE vid a e

def restM (age : Int) (l : List Ent) (vid : Int) (a : Nat → Nat) (now : Int) : List Ent := l.filter fun e => !(goneE age now vid a e)

def roomM (m : List Ent) : List Ent := if m.length = 32 then m.drop 1 else m

def learnM (age : Int) (l : List Ent) (vid : Int) (a : Nat → Nat) (port now : Int) : List Ent := roomM (restM age l vid a now) ++ [⟨vid, a, port, now⟩]

def lookM (age : Int) (l : List Ent) (vid : Int) (a : Nat → Nat) (now : Int) : Int := ((l.find? fun e => keyE vid a e && aliveE age now e).map Ent.port).getD (-1)

def lenM (age : Int) (l : List Ent) (now : Int) : Nat := l.countP (aliveE age now)

def forgetM (l : List Ent) (port : Int) : List Ent := l.filter fun e => !(e.port == port)

/-- What every entry of a table is. -/
structure OkE (e : Ent) : Prop where
  a : ∀ i, e.a i < 256
  p0 : 0 ≤ e.port
  p1 : e.port < 8
  t0 : 0 ≤ e.time
  t1 : e.time ≤ 1099511627776

/-- What every table is. -/
structure OkL (l : List Ent) : Prop where
  len : l.length ≤ 32
  ok : ∀ e ∈ l, OkE e

theorem OkL.nil : OkL [] := ⟨by simp, by simp⟩

theorem OkL.filter {l : List Ent} (h : OkL l) (p : Ent → Bool) : OkL (l.filter p) :=
  ⟨Nat.le_trans (List.length_filter_le _ _) h.len, fun e he => h.ok e ((List.mem_filter.1 he).1)⟩

theorem roomM_len (m : List Ent) (h : m.length ≤ 32) : (roomM m).length ≤ 31 := by
  unfold roomM
  split
  · rw [List.length_drop]; omega
  · omega

theorem roomM_sub (m : List Ent) : ∀ e ∈ roomM m, e ∈ m := by
  intro e he
  unfold roomM at he
  split at he
  · exact List.mem_of_mem_drop he
  · exact he

theorem OkL.learn {l : List Ent} (h : OkL l) (age vid : Int) (a : Nat → Nat) (port now : Int) (ha : ∀ i, a i < 256) (p0 : 0 ≤ port) (p1 : port < 8) (t0 : 0 ≤ now) (t1 : now ≤ 1099511627776) : OkL (learnM age l vid a port now) := by
  have hf := h.filter fun e => !(goneE age now vid a e)
  constructor
  · unfold learnM
    rw [List.length_append]
    have := roomM_len _ hf.len
    have h1 : [(⟨vid, a, port, now⟩ : Ent)].length = 1 := rfl
    rw [h1]
    exact Nat.succ_le_succ this
  · intro e he
    rcases List.mem_append.1 he with q | q
    · exact hf.ok e (roomM_sub _ e q)
    · rw [List.mem_singleton.1 q]; exact ⟨ha, p0, p1, t0, t1⟩

theorem OkL.forget {l : List Ent} (h : OkL l) (port : Int) : OkL (forgetM l port) := h.filter _

/-! What the school knows. -/

/-- One entry of each VID and address, none of later than now. -/
structure Kept (l : List Ent) (now : Int) : Prop where
  ok : OkL l
  one : l.Pairwise fun e f => keyE f.vid f.a e = false
  late : ∀ e ∈ l, e.time ≤ now

theorem Kept.nil (now : Int) : Kept [] now := ⟨OkL.nil, List.Pairwise.nil, by simp⟩

theorem roomM_sublist (m : List Ent) : (roomM m).Sublist m := by
  unfold roomM
  split
  · exact List.drop_sublist _ _
  · exact List.Sublist.refl _

theorem Kept.learn {l : List Ent} {now : Int} (h : Kept l now) (age vid : Int) (a : Nat → Nat) (port then_ : Int) (ha : ∀ i, a i < 256) (p0 : 0 ≤ port) (p1 : port < 8) (t0 : 0 ≤ then_) (t1 : then_ ≤ 1099511627776) (hn : now ≤ then_) : Kept (learnM age l vid a port then_) then_ := by
  refine ⟨h.ok.learn age vid a port then_ ha p0 p1 t0 t1, ?_, ?_⟩
  · unfold learnM
    rw [List.pairwise_append]
    refine ⟨h.one.sublist ((roomM_sublist _).trans List.filter_sublist), List.pairwise_singleton _ _, ?_⟩
    intro e he f hf
    rw [List.mem_singleton.1 hf]
    have h1 := roomM_sub _ e he
    have h2 := (List.mem_filter.1 h1).2
    cases hk : keyE vid a e with
    | false => rfl
    | true => simp [goneE, hk] at h2
  · intro e he
    rcases List.mem_append.1 he with q | q
    · exact Int.le_trans (h.late e ((List.mem_filter.1 (roomM_sub _ e q)).1)) hn
    · rw [List.mem_singleton.1 q]; exact Int.le_refl _

theorem keyE_self (e : Ent) : keyE e.vid e.a e = true := by simp [keyE, eqN_refl]

theorem lookM_neg {age : Int} {l : List Ent} {vid : Int} {a : Nat → Nat} {now : Int} (h : OkL l) : lookM age l vid a now = -1 ∧ (∀ e ∈ l, (keyE vid a e && aliveE age now e) = false) ∨ ∃ e ∈ l, (keyE vid a e && aliveE age now e) = true ∧ lookM age l vid a now = e.port ∧ 0 ≤ e.port := by
  unfold lookM
  cases hf : l.find? fun e => keyE vid a e && aliveE age now e with
  | none =>
    refine Or.inl ⟨rfl, fun e he => ?_⟩
    have := List.find?_eq_none.1 hf e he
    simpa using this
  | some e =>
    have h1 := List.mem_of_find?_eq_some hf
    have h2 := List.find?_some hf
    exact Or.inr ⟨e, h1, h2, rfl, (h.ok e h1).p0⟩

theorem alive_now {age now : Int} (h : 1 ≤ age) {e : Ent} (he : e.time = now) : aliveE age now e = true := by
  unfold aliveE
  rw [he]
  exact decide_eq_true (by omega)

/-- LearnNow, plainly. -/
theorem find_drop_key {l : List Ent} {p q : Ent → Bool} (h : ∀ e ∈ l, p e = true → q e = true) : (l.filter q).find? p = l.find? p := by
  induction l with
  | nil => rfl
  | cons e l ih =>
    have ih := ih fun x hx => h x (List.mem_cons_of_mem _ hx)
    rw [List.filter_cons, List.find?_cons]
    cases hp : p e with
    | true =>
      rw [h e List.mem_cons_self hp]
      simp [hp]
    | false =>
      cases hq : q e with
      | true => simp [hp, ih]
      | false => simp [ih]

theorem look_new (age : Int) (l : List Ent) (vid : Int) (a : Nat → Nat) (port now : Int) (hage : 1 ≤ age) : lookM age (learnM age l vid a port now) vid a now = port := by
  unfold lookM learnM
  rw [List.find?_append]
  have h1 : (roomM (restM age l vid a now)).find? (fun e => keyE vid a e && aliveE age now e) = none := by
    rw [List.find?_eq_none]
    intro e he
    have h2 := (List.mem_filter.1 (roomM_sub _ e he)).2
    simp only [goneE, Bool.not_or, Bool.not_not, Bool.and_eq_true] at h2
    simp [h2]
    cases hk : keyE vid a e with
    | false => simp
    | true => simp [hk] at h2
  rw [h1]
  have h3 : aliveE age now ⟨vid, a, port, now⟩ = true := alive_now hage rfl
  have h4 : keyE vid a ⟨vid, a, port, now⟩ = true := keyE_self ⟨vid, a, port, now⟩
  simp [h3, h4]

theorem rest_short {age : Int} {l : List Ent} {vid : Int} {a : Nat → Nat} {now : Int} (h : OkL l) (hk : 0 ≤ lookM age l vid a now ∨ lenM age l now < 32) : (restM age l vid a now).length < 32 := by
  have h0 : (restM age l vid a now).length ≤ lenM age l now := by
    unfold restM lenM
    rw [← List.countP_eq_length_filter]
    refine List.countP_mono_left fun e he h1 => ?_
    simp only [goneE, Bool.not_or, Bool.not_not, Bool.and_eq_true] at h1
    exact h1.1
  rcases hk with hk | hk
  · rcases lookM_neg (age := age) (vid := vid) (a := a) (now := now) h with ⟨h1, _⟩ | ⟨e, he, h1, _⟩
    · omega
    · have h2 : (restM age l vid a now).length < l.length := by
        unfold restM
        refine List.length_filter_lt_length_iff_exists.2 ⟨e, he, ?_⟩
        rw [Bool.and_eq_true] at h1
        simp [goneE, h1.1]
      have := h.len
      omega
  · omega

theorem look_other {age : Int} {l : List Ent} {vid : Int} {a b : Nat → Nat} {port now : Int} (hb : eqN 6 b a = false) (hs : (restM age l vid a now).length < 32) : lookM age (learnM age l vid a port now) vid b now = lookM age l vid b now := by
  unfold lookM learnM roomM
  rw [if_neg (by omega), List.find?_append]
  have h1 : [(⟨vid, a, port, now⟩ : Ent)].find? (fun e => keyE vid b e && aliveE age now e) = none := by
    have : keyE vid b ⟨vid, a, port, now⟩ = false := by simp [keyE]; rw [eqN_symm]; exact hb
    simp [this]
  rw [h1, Option.or_none]
  unfold restM
  rw [find_drop_key]
  intro e he hp
  rw [Bool.and_eq_true] at hp
  have h2 : keyE vid a e = false := by
    have h3 := hp.1
    unfold keyE at h3 ⊢
    rw [Bool.and_eq_true] at h3
    rw [h3.1, eqN_left h3.2 a, hb]
    rfl
  simp [goneE, hp.2, h2]

theorem len_full {age : Int} {l : List Ent} {vid : Int} {a : Nat → Nat} {port now : Int} (h : OkL l) (hage : 1 ≤ age) (hk : ¬ 0 ≤ lookM age l vid a now) (hn : ¬ lenM age l now < 32) : lenM age (learnM age l vid a port now) now = 32 := by
  have hle : lenM age l now ≤ l.length := List.countP_le_length
  have hlen : l.length = 32 := by have := h.len; omega
  have hall : ∀ e ∈ l, aliveE age now e = true := List.countP_eq_length.1 (show l.countP (aliveE age now) = l.length by have : lenM age l now = l.countP (aliveE age now) := rfl; omega)
  have hno : ∀ e ∈ l, keyE vid a e = false := by
    rcases lookM_neg (age := age) (vid := vid) (a := a) (now := now) h with ⟨_, h1⟩ | ⟨e, he, _, h2, h3⟩
    · intro e he
      have := h1 e he
      rw [hall e he, Bool.and_true] at this
      exact this
    · omega
  have hr : restM age l vid a now = l := by
    unfold restM
    rw [List.filter_eq_self]
    intro e he
    simp [goneE, hall e he, hno e he]
  unfold learnM roomM lenM
  rw [hr, if_pos hlen, List.countP_append]
  have h1 : (l.drop 1).countP (aliveE age now) = 31 := by
    have : (l.drop 1).countP (aliveE age now) = (l.drop 1).length := List.countP_eq_length.2 fun e he => hall e (List.mem_of_mem_drop he)
    rw [this, List.length_drop, hlen]
  have h2 : [(⟨vid, a, port, now⟩ : Ent)].countP (aliveE age now) = 1 := by
    have : aliveE age now ⟨vid, a, port, now⟩ = true := alive_now hage rfl
    simp [this]
  omega

/-! LearnBound, plainly. -/

theorem len_le {age : Int} {l : List Ent} {now : Int} (h : OkL l) : lenM age l now ≤ 32 := Nat.le_trans List.countP_le_length h.len

theorem len_mono {age : Int} (l : List Ent) {now n2 : Int} (h : now ≤ n2) : lenM age l n2 ≤ lenM age l now := by
  unfold lenM
  refine List.countP_mono_left fun e he h1 => ?_
  unfold aliveE at h1 ⊢
  have := of_decide_eq_true h1
  exact decide_eq_true (by omega)

theorem len_old {age : Int} {l : List Ent} {now n2 : Int} (h : Kept l now) (hn : now + age < n2) : lenM age l n2 = 0 := by
  unfold lenM
  rw [List.countP_eq_zero]
  intro e he
  have := h.late e he
  unfold aliveE
  simp
  omega

theorem len_learn {age : Int} {l : List Ent} {vid : Int} {a : Nat → Nat} {port now : Int} (hage : 1 ≤ age) : lenM age (learnM age l vid a port now) now ≠ 0 := by
  unfold lenM learnM
  rw [List.countP_append]
  have : aliveE age now ⟨vid, a, port, now⟩ = true := alive_now hage rfl
  simp [this]

/-! LearnForgets, plainly. -/

theorem find_forget {p : Ent → Bool} {q : Ent → Bool} : ∀ {l : List Ent} {e : Ent}, l.find? p = some e → q e = true → (l.filter q).find? p = some e
  | [], _, h, _ => by simp at h
  | f :: l, e, h, hq => by
    rw [List.find?_cons] at h
    rw [List.filter_cons]
    cases hp : p f with
    | true =>
      rw [hp] at h
      simp at h
      subst h
      rw [if_pos hq, List.find?_cons, hp]
    | false =>
      rw [hp] at h
      simp only at h
      have ih := find_forget h hq
      split
      · rw [List.find?_cons, hp]; exact ih
      · exact ih

theorem look_forget {age : Int} {l : List Ent} {now vid : Int} {a : Nat → Nat} {port : Int} (h : Kept l now) (hp : 0 ≤ port) :
    (lookM age (forgetM l port) vid a now == lookM age l vid a now && !(lookM age l vid a now == port) || (lookM age l vid a now == port && lookM age (forgetM l port) vid a now == -1)) = true := by
  unfold lookM forgetM
  cases hf : l.find? fun e => keyE vid a e && aliveE age now e with
  | none =>
    have h1 : (l.filter fun e => !(e.port == port)).find? (fun e => keyE vid a e && aliveE age now e) = none := by
      rw [List.find?_eq_none] at hf ⊢
      exact fun e he => hf e ((List.mem_filter.1 he).1)
    rw [h1]
    simp
  | some e =>
    by_cases hq : e.port = port
    · have h1 : (l.filter fun e => !(e.port == port)).find? (fun e => keyE vid a e && aliveE age now e) = none := by
        rw [List.find?_eq_none]
        intro f hfm hk
        have hf1 := List.mem_filter.1 hfm
        have he := List.mem_of_find?_eq_some hf
        have hke := List.find?_some hf
        rw [Bool.and_eq_true] at hke hk
        have hne : f ≠ e := by
          rintro rfl
          have := hf1.2
          simp [hq] at this
        have k1 := hk.1
        have k2 := hke.1
        unfold keyE at k1 k2
        rw [Bool.and_eq_true] at k1 k2
        have v1 : f.vid = e.vid := (by simpa using k1.1 : f.vid = vid).trans (by simpa using k2.1 : e.vid = vid).symm
        have v2 : eqN 6 f.a e.a = true := by rw [eqN_left k1.2, eqN_symm]; exact k2.2
        have v3 : eqN 6 e.a f.a = true := by rw [eqN_symm]; exact v2
        have hpw := List.pairwise_iff_getElem.1 h.one
        obtain ⟨i, hi, e1⟩ := List.getElem_of_mem he
        obtain ⟨j, hj, e2⟩ := List.getElem_of_mem hf1.1
        rcases Nat.lt_trichotomy i j with q | q | q
        · have := hpw i j hi hj q
          rw [e1, e2] at this
          simp [keyE, v1, v3] at this
        · subst q
          exact hne (e2.symm.trans e1)
        · have := hpw j i hj hi q
          rw [e1, e2] at this
          simp [keyE, v1, v2] at this
      rw [h1]
      simp [hq]
    · have h1 := find_forget (q := fun e => !(e.port == port)) hf (by simpa using hq)
      rw [h1]
      simp [hq]

end Go.Proofs.Ytdceggekhhflgaa
