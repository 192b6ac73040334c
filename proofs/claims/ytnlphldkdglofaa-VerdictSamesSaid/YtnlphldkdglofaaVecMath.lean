/- Names and vectors as lists of numbers, and their order: plain lists, nothing of the program. -/
import Derived.Test.YtnlphldkdglofaaHexT
namespace Go.Proofs.Ytnlphldkdglofaa
set_option linter.unusedVariables false

/-- A bridge's name. -/
structure Br where
  p : Int
  e : Int
  a : Nat → Nat

/-- A vector. -/
structure Ve where
  root : Br
  cost : Int
  sender : Br
  pp : Int
  pn : Int
  ap : Int
  an : Int

def sixI (x : Nat → Nat) : List Int := [(x 0 : Int), (x 1 : Int), (x 2 : Int), (x 3 : Int), (x 4 : Int), (x 5 : Int)]

def numsB (b : Br) : List Int := [b.p, b.e] ++ sixI b.a

def lineV (v : Ve) : List Int := numsB v.root ++ ([v.cost] ++ (numsB v.sender ++ [v.pp, v.pn, v.ap, v.an]))

theorem numsB_len (b : Br) : (numsB b).length = 8 := rfl

theorem lineV_len (v : Ve) : (lineV v).length = 21 := rfl

/-- How two numbers lie. -/
def cmpI (x y : Int) : Int := if x < y then -1 else if y < x then 1 else 0

/-- How two lists lie: by the first number that differs. -/
def cmpL : List Int → List Int → Int
  | a :: l, b :: m => if a < b then -1 else if b < a then 1 else cmpL l m
  | _, _ => 0

/-- The first number that is not 0. -/
def orI : List Int → Int
  | [] => 0
  | a :: l => if a = 0 then orI l else a

theorem cmpL_one (x y : Int) : cmpL [x] [y] = cmpI x y := by simp [cmpL, cmpI]

theorem orI_one (x : Int) : orI [x] = x := by unfold orI; split <;> simp_all [orI]

theorem cmpI_zero {x y : Int} : cmpI x y = 0 ↔ x = y := by
  unfold cmpI
  repeat' split
  all_goals omega

theorem cmpL_append : ∀ (l m l' m' : List Int), l.length = m.length → cmpL (l ++ l') (m ++ m') = if cmpL l m = 0 then cmpL l' m' else cmpL l m
  | [], [], l', m', _ => by simp [cmpL]
  | [], _ :: _, _, _, h => by simp at h
  | _ :: _, [], _, _, h => by simp at h
  | a :: l, b :: m, l', m', h => by
    have ih := cmpL_append l m l' m' (by simpa using h)
    simp only [List.cons_append, cmpL]
    split
    · simp
    · split
      · simp
      · exact ih

theorem cmpL_self : ∀ l : List Int, cmpL l l = 0
  | [] => rfl
  | a :: l => by simp [cmpL, cmpL_self l]

theorem cmpL_eq : ∀ l m : List Int, l.length = m.length → cmpL l m = 0 → l = m
  | [], [], _, _ => rfl
  | [], _ :: _, h, _ => by simp at h
  | _ :: _, [], h, _ => by simp at h
  | a :: l, b :: m, h, h0 => by
    simp only [cmpL] at h0
    split at h0
    · omega
    · split at h0
      · omega
      · rw [cmpL_eq l m (by simpa using h) h0, show a = b by omega]

theorem cmpL_iff {l m : List Int} (h : l.length = m.length) : cmpL l m = 0 ↔ l = m := ⟨cmpL_eq l m h, by rintro rfl; exact cmpL_self _⟩

theorem cmpL_swap : ∀ l m : List Int, cmpL m l = -cmpL l m
  | [], [] => rfl
  | [], _ :: _ => rfl
  | _ :: _, [] => rfl
  | a :: l, b :: m => by
    have ih := cmpL_swap l m
    simp only [cmpL]
    repeat' split
    all_goals omega

theorem cmpL_trans : ∀ l m k : List Int, l.length = m.length → m.length = k.length → cmpL l m < 0 → cmpL m k < 0 → cmpL l k < 0
  | [], [], [], _, _, h, _ => by simp [cmpL] at h
  | [], _ :: _, _, h, _, _, _ => by simp at h
  | _ :: _, [], _, h, _, _, _ => by simp at h
  | [], [], _ :: _, _, h, _, _ => by simp at h
  | _ :: _, _ :: _, [], _, h, _, _ => by simp at h
  | a :: l, b :: m, c :: k, h, h', h1, h2 => by
    have ih := cmpL_trans l m k (by simpa using h) (by simpa using h')
    simp only [cmpL] at h1 h2 ⊢
    by_cases q1 : a < b
    · by_cases q2 : b < c
      · rw [if_pos (by omega)]; decide
      · by_cases q3 : c < b
        · rw [if_neg q2, if_pos q3] at h2; omega
        · rw [if_pos (by omega)]; decide
    · by_cases q4 : b < a
      · rw [if_neg q1, if_pos q4] at h1; omega
      · rw [if_neg q1, if_neg q4] at h1
        obtain rfl : a = b := by omega
        by_cases q2 : a < c
        · rw [if_pos q2]; decide
        · rw [if_neg q2] at h2 ⊢
          by_cases q3 : c < a
          · rw [if_pos q3] at h2; omega
          · rw [if_neg q3] at h2 ⊢
            exact ih h1 h2

theorem cmpL_range : ∀ l m : List Int, cmpL l m = -1 ∨ cmpL l m = 0 ∨ cmpL l m = 1
  | [], [] => Or.inr (Or.inl rfl)
  | [], _ :: _ => Or.inr (Or.inl rfl)
  | _ :: _, [] => Or.inr (Or.inl rfl)
  | a :: l, b :: m => by
    have ih := cmpL_range l m
    simp only [cmpL]
    repeat' split
    all_goals omega

/-- A bridge's name is less; a vector is better. -/
def lessB (a b : Br) : Bool := decide (cmpL (numsB a) (numsB b) < 0)

def bettV (a b : Ve) : Bool := decide (cmpL (lineV a) (lineV b) < 0)

theorem bettV_irr (a : Ve) : bettV a a = false := by simp [bettV, cmpL_self]

theorem bettV_asym {a b : Ve} (h : bettV a b = true) : bettV b a = false := by
  have := cmpL_swap (lineV a) (lineV b)
  simp only [bettV, decide_eq_true_eq, decide_eq_false_iff_not] at h ⊢
  omega

theorem bettV_trans {a b c : Ve} (h : bettV a b = true) (h' : bettV b c = true) : bettV a c = true := by
  simp only [bettV, decide_eq_true_eq] at h h' ⊢
  exact cmpL_trans (lineV a) (lineV b) (lineV c) rfl rfl h h'

theorem bettV_tot {a b : Ve} (h : lineV a ≠ lineV b) : bettV a b = true ∨ bettV b a = true := by
  have h1 := cmpL_swap (lineV a) (lineV b)
  have h2 : cmpL (lineV a) (lineV b) ≠ 0 := fun e => h (cmpL_eq _ _ rfl e)
  simp only [bettV, decide_eq_true_eq]
  omega

/-- Not worse, over a third. -/
theorem bettV_neg {a b c : Ve} (h : bettV b a = false) (h' : bettV c b = false) : bettV c a = false := by
  cases hc : bettV c a with
  | false => rfl
  | true =>
    by_cases e : lineV a = lineV b
    · simp only [bettV] at hc h'
      rw [e] at hc
      rw [hc] at h'; cases h'
    · rcases bettV_tot e with q | q
      · rw [bettV_trans hc q] at h'; cases h'
      · rw [q] at h; cases h

/-- Which of a list is best. -/
def BestAt (l : List Ve) (i : Int) : Prop := (l = [] ∧ i = -1) ∨ ∃ k, ∃ hk : k < l.length, i = (k : Int) ∧ (∀ j (hj : j < l.length), j < k → bettV l[k] l[j] = true) ∧ ∀ j (hj : j < l.length), bettV l[j] l[k] = false

theorem BestAt.one {l : List Ve} {i j : Int} (h : BestAt l i) (h' : BestAt l j) : i = j := by
  rcases h with ⟨rfl, rfl⟩ | ⟨k, hk, rfl, h1, h2⟩
  · rcases h' with ⟨_, rfl⟩ | ⟨m, hm, _⟩
    · rfl
    · simp at hm
  · rcases h' with ⟨rfl, _⟩ | ⟨m, hm, rfl, h3, h4⟩
    · simp at hk
    · rcases Nat.lt_trichotomy k m with q | q | q
      · have := h3 k hk q
        rw [h2 m hm] at this; cases this
      · rw [q]
      · have := h1 m hm q
        rw [h4 k hk] at this; cases this

theorem bytesLess_cmp : ∀ (u v : List Nat), u.length = v.length → (∀ a ∈ u, a < 256) → (∀ a ∈ v, a < 256) → Op.bytesLess (u.map UInt8.ofNat) (v.map UInt8.ofNat) = decide (cmpL (u.map Int.ofNat) (v.map Int.ofNat) < 0)
  | [], [], _, _, _ => by simp [cmpL, Op.bytesLess]
  | [], _ :: _, h, _, _ => by simp at h
  | _ :: _, [], h, _, _ => by simp at h
  | a :: u, b :: v, h, hu, hv => by
    have ih := bytesLess_cmp u v (by simpa using h) (fun c hc => hu c (List.mem_cons_of_mem _ hc)) (fun c hc => hv c (List.mem_cons_of_mem _ hc))
    have ha := hu a (by simp)
    have hb := hv b (by simp)
    simp only [List.map_cons, Op.bytesLess, cmpL, byte_lt a b ha hb, byte_beq a b ha hb, ih]
    by_cases h1 : a < b
    · simp [h1]
    · by_cases h2 : b < a
      · have : ¬ a = b := by omega
        simp [h1, h2, this]
      · have : a = b := by omega
        subst this
        simp

theorem sixI_map (x : Nat → Nat) : sixI x = (six x).map Int.ofNat := rfl

theorem six_cmp {x y : Nat → Nat} (hx : ∀ i, x i < 256) (hy : ∀ i, y i < 256) : Op.bytesLess ((six x).map UInt8.ofNat) ((six y).map UInt8.ofNat) = decide (cmpL (sixI x) (sixI y) < 0) := by
  rw [sixI_map, sixI_map]
  exact bytesLess_cmp _ _ rfl (six_lt hx) (six_lt hy)

theorem sixI_inj {x y : Nat → Nat} (h : sixI x = sixI y) : six x = six y := by
  simp only [sixI, six, List.cons.injEq, Int.natCast_inj, and_true] at h ⊢
  exact h

/-- The order is on the parts. -/
theorem lessB_parts (a b : Br) : cmpL (numsB a) (numsB b) = orI [cmpI a.p b.p, cmpI a.e b.e, cmpL (sixI a.a) (sixI b.a)] := by
  unfold numsB
  rw [cmpL_append [a.p, a.e] [b.p, b.e] _ _ rfl]
  simp only [cmpL, cmpI, orI]
  by_cases h1 : a.p < b.p
  · simp [h1]
  · by_cases h2 : b.p < a.p
    · simp [h1, h2]
    · by_cases h3 : a.e < b.e
      · simp [h1, h2, h3]
      · by_cases h4 : b.e < a.e
        · simp [h1, h2, h3, h4]
        · by_cases h5 : cmpL (sixI a.a) (sixI b.a) = 0 <;> simp [h1, h2, h3, h4, h5]

theorem orI_cons (x : Int) (l : List Int) : orI (x :: l) = if x = 0 then orI l else x := rfl

theorem cmpL_two (x y u v : Int) : cmpL [x, y] [u, v] = orI [cmpI x u, cmpI y v] := by
  simp only [cmpL, cmpI, orI]
  by_cases h1 : x < u
  · simp [h1]
  · by_cases h2 : u < x
    · simp [h1, h2]
    · by_cases h3 : y < v
      · simp [h1, h2, h3]
      · by_cases h4 : v < y <;> simp [h1, h2, h3, h4]

theorem bettV_parts (a b : Ve) : cmpL (lineV a) (lineV b) = orI [cmpL (numsB a.root) (numsB b.root), cmpI a.cost b.cost, cmpL (numsB a.sender) (numsB b.sender), orI [cmpI a.pp b.pp, cmpI a.pn b.pn], orI [cmpI a.ap b.ap, cmpI a.an b.an]] := by
  unfold lineV
  rw [cmpL_append (numsB a.root) (numsB b.root) _ _ rfl, cmpL_append [a.cost] [b.cost] _ _ rfl, cmpL_append (numsB a.sender) (numsB b.sender) _ _ rfl, ← cmpL_two, ← cmpL_two, cmpL_one]
  have h4 := cmpL_append [a.pp, a.pn] [b.pp, b.pn] [a.ap, a.an] [b.ap, b.an] rfl
  have h4' : cmpL [a.pp, a.pn, a.ap, a.an] [b.pp, b.pn, b.ap, b.an] = if cmpL [a.pp, a.pn] [b.pp, b.pn] = 0 then cmpL [a.ap, a.an] [b.ap, b.an] else cmpL [a.pp, a.pn] [b.pp, b.pn] := h4
  rw [h4', orI_cons, orI_cons, orI_cons, orI_cons, orI_one]

end Go.Proofs.Ytnlphldkdglofaa
