/-
  Plain mathematics: the bytes of events, read.
-/
import Derived.Test.YtpnnbdejneoccaaB9
namespace Go.Proofs.Ytpnnbdejneoccaa
open Go.RowKit

theorem b8_byte (b : UInt8) : b8 (b.toNat : Int) = b := by
  unfold b8
  have h : b.toNat < 256 := b.toNat_lt
  have e : ((b.toNat : Int) % 256).toNat = b.toNat := by omega
  rw [e]; simp

theorem b8_toNat {i : Nat} (h : i < 256) : (b8 (i : Int)).toNat = i := by
  unfold b8
  have e : ((i : Int) % 256).toNat = i := by omega
  rw [e]
  exact UInt8.toNat_ofNat_of_lt' (by simpa using h)

/-- A short text, read. -/
def takeS : List UInt8 → Option (ByteArray × List UInt8)
  | [] => none
  | b :: r => if b.toNat ≤ r.length then some (⟨(r.take b.toNat).toArray⟩, r.drop b.toNat) else none

theorem takeS_sound {bs r : List UInt8} {x : ByteArray} (h : takeS bs = some (x, r)) : bs = shortB x ++ r ∧ x.size ≤ 255 := by
  cases bs with
  | nil => cases h
  | cons b q =>
    have h' : (if b.toNat ≤ q.length then some ((⟨(q.take b.toNat).toArray⟩ : ByteArray), q.drop b.toNat) else none) = some (x, r) := h
    split at h'
    · rename_i hb
      cases h'
      have hs : (⟨(q.take b.toNat).toArray⟩ : ByteArray).size = b.toNat := by
        show (q.take b.toNat).toArray.size = _
        rw [List.size_toArray, List.length_take]; omega
      refine ⟨?_, by rw [hs]; have := b.toNat_lt; omega⟩
      unfold shortB
      rw [hs, b8_byte]
      show b :: q = b :: ((q.take b.toNat).toArray.toList ++ q.drop b.toNat)
      rw [List.take_append_drop]
    · rename_i hb
      cases h'

theorem takeS_complete (x : ByteArray) (r : List UInt8) (h : x.size ≤ 255) : takeS (shortB x ++ r) = some (x, r) := by
  unfold shortB
  show (if (b8 (x.size : Int)).toNat ≤ (x.data.toList ++ r).length then some ((⟨((x.data.toList ++ r).take (b8 (x.size : Int)).toNat).toArray⟩ : ByteArray), (x.data.toList ++ r).drop (b8 (x.size : Int)).toNat) else none) = _
  have hn : (b8 (x.size : Int)).toNat = x.size := b8_toNat (by omega)
  have hl : x.data.toList.length = x.size := by simp
  rw [hn, if_pos (by rw [List.length_append, hl]; omega), List.take_append_of_le_length (by omega), List.drop_append_of_le_length (by omega), List.take_of_length_le (by omega), List.drop_eq_nil_of_le (by omega)]
  simp

/-- A size by sevens of bits, read. -/
def dsz : Nat → Nat → Nat → List UInt8 → Option (Nat × List UInt8)
  | 0, _, _, _ => none
  | _ + 1, _, _, [] => none
  | f + 1, j, acc, b :: r =>
    if b.toNat % 128 ≤ 999999999 / 128 ^ j then
      if b.toNat < 128 then (if 0 < b.toNat ∨ j = 0 then some (acc + b.toNat % 128 * 128 ^ j, r) else none)
      else dsz f (j + 1) (acc + b.toNat % 128 * 128 ^ j) r
    else none

theorem dsz_cons (f j acc : Nat) (b : UInt8) (r : List UInt8) : dsz (f + 1) j acc (b :: r) = if b.toNat % 128 ≤ 999999999 / 128 ^ j then (if b.toNat < 128 then (if 0 < b.toNat ∨ j = 0 then some (acc + b.toNat % 128 * 128 ^ j, r) else none) else dsz f (j + 1) (acc + b.toNat % 128 * 128 ^ j) r) else none := rfl

theorem num7_small (g : Nat) (k : Nat) (h : k < 128) : num7 g (k : Int) = [b8 (k : Int)] := by
  cases g with
  | zero => rfl
  | succ g => rw [num7, if_pos (by omega)]

theorem dsz_sound : ∀ (f j acc : Nat) (bs r : List UInt8) (n : Nat), dsz f j acc bs = some (n, r) → ∃ k, n = acc + k * 128 ^ j ∧ (0 < k ∨ j = 0) ∧ ∀ g, k < 128 ^ (g + 1) → bs = num7 g (k : Int) ++ r := by
  intro f
  induction f with
  | zero => intro j acc bs r n h; cases h
  | succ f ih =>
    intro j acc bs r n h
    cases bs with
    | nil => cases h
    | cons b q =>
      rw [dsz_cons] at h
      split at h
      · split at h
        · rename_i hb
          split at h
          · rename_i hz
            cases h
            refine ⟨b.toNat, by rw [Nat.mod_eq_of_lt hb], hz, fun g hg => ?_⟩
            rw [num7_small g _ hb, b8_byte]; rfl
          · cases h
        · rename_i hb
          obtain ⟨k, hk, hz, hg⟩ := ih _ _ _ _ _ h
          have hk0 : 0 < k := by omega
          have hlt := b.toNat_lt
          refine ⟨b.toNat % 128 + 128 * k, ?_, .inl (by omega), fun g hgk => ?_⟩
          · rw [hk, Nat.add_mul, Nat.pow_succ]
            have : k * (128 ^ j * 128) = 128 * k * 128 ^ j := by rw [Nat.mul_comm (128 ^ j), ← Nat.mul_assoc, Nat.mul_comm k]
            omega
          · cases g with
            | zero => simp at hgk; omega
            | succ g =>
              have hq := hg g (by
                rw [Nat.pow_succ] at hgk
                have : 128 * k < 128 ^ (g + 1) * 128 := by omega
                omega)
              rw [num7, if_neg (by omega), hq]
              have e1 : (((b.toNat % 128 + 128 * k : Nat) : Int) % 128 + 128) = (b.toNat : Int) := by omega
              have e2 : (((b.toNat % 128 + 128 * k : Nat) : Int) / 128) = (k : Int) := by omega
              rw [e1, e2, b8_byte]; rfl
      · cases h

theorem dsz_complete : ∀ (g f j acc k : Nat) (r : List UInt8), k < 128 ^ (g + 1) → k * 128 ^ j ≤ 999999999 → (0 < k ∨ j = 0) → (num7 g (k : Int) ++ r).length ≤ f → dsz f j acc (num7 g (k : Int) ++ r) = some (acc + k * 128 ^ j, r) := by
  intro g
  induction g with
  | zero =>
    intro f j acc k r hk hm hz hf
    have hk' : k < 128 := by simpa using hk
    rw [num7_small 0 k hk'] at hf ⊢
    cases f with
    | zero => simp at hf
    | succ f =>
      show dsz (f + 1) j acc (b8 (k : Int) :: r) = _
      rw [dsz_cons, b8_toNat (by omega), Nat.mod_eq_of_lt hk', if_pos ((Nat.le_div_iff_mul_le (Nat.pow_pos (by omega))).2 hm), if_pos hk', if_pos hz]
  | succ g ih =>
    intro f j acc k r hk hm hz hf
    by_cases hk' : k < 128
    · rw [num7_small _ k hk'] at hf ⊢
      cases f with
      | zero => simp at hf
      | succ f =>
        show dsz (f + 1) j acc (b8 (k : Int) :: r) = _
        rw [dsz_cons, b8_toNat (by omega), Nat.mod_eq_of_lt hk', if_pos ((Nat.le_div_iff_mul_le (Nat.pow_pos (by omega))).2 hm), if_pos hk', if_pos hz]
    · have hn : num7 (g + 1) (k : Int) = b8 ((k % 128 + 128 : Nat) : Int) :: num7 g ((k / 128 : Nat) : Int) := by
        rw [num7, if_neg (by omega)]; rfl
      rw [hn] at hf ⊢
      cases f with
      | zero => simp at hf
      | succ f =>
        show dsz (f + 1) j acc (b8 ((k % 128 + 128 : Nat) : Int) :: (num7 g ((k / 128 : Nat) : Int) ++ r)) = _
        have hpj : 0 < 128 ^ j := Nat.pow_pos (by omega)
        have hdec : k % 128 * 128 ^ j + k / 128 * (128 ^ j * 128) = k * 128 ^ j := by
          have e : k / 128 * (128 ^ j * 128) = (128 * (k / 128)) * 128 ^ j := by rw [Nat.mul_comm (128 ^ j), ← Nat.mul_assoc, Nat.mul_comm (k / 128)]
          rw [e, ← Nat.add_mul, Nat.mod_add_div]
        have hm1 : k % 128 * 128 ^ j ≤ 999999999 := Nat.le_trans (Nat.mul_le_mul_right (128 ^ j) (Nat.mod_le k 128)) hm
        have hm2 : k % 128 ≤ 999999999 / 128 ^ j := (Nat.le_div_iff_mul_le hpj).2 hm1
        have hih := ih f (j + 1) (acc + k % 128 * 128 ^ j) (k / 128) r (by rw [Nat.pow_succ] at hk; omega) (by rw [Nat.pow_succ]; have := hm; omega) (.inl (by omega)) (by simpa using hf)
        rw [dsz_cons, b8_toNat (by omega), show (k % 128 + 128) % 128 = k % 128 by omega, if_pos hm2, if_neg (by omega), hih, Nat.pow_succ, Nat.add_assoc]
        have e2 : k % 128 * 128 ^ j + k / 128 * (128 ^ j * 128) = k * 128 ^ j := hdec
        rw [e2]

/-- A number, read. -/
def decNum : List UInt8 → Option (Int × List UInt8)
  | [] => none
  | sg :: r => match dsz r.length 0 0 r with
    | none => none
    | some (n, q) => if sg.toNat = 0 then some ((n : Int), q) else if sg.toNat = 1 ∧ 0 < n then some (-(n : Int), q) else none

theorem decNum_cons (sg : UInt8) (r : List UInt8) : decNum (sg :: r) = match dsz r.length 0 0 r with
    | none => none
    | some (n, q) => if sg.toNat = 0 then some ((n : Int), q) else if sg.toNat = 1 ∧ 0 < n then some (-(n : Int), q) else none := rfl

theorem decNum_sound {bs r : List UInt8} {v : Int} (h : decNum bs = some (v, r)) (hv : -999999999 ≤ v ∧ v ≤ 999999999) : bs = numB v ++ r := by
  cases bs with
  | nil => cases h
  | cons sg q =>
    rw [decNum_cons] at h
    cases hd : dsz q.length 0 0 q with
    | none => rw [hd] at h; cases h
    | some p =>
      obtain ⟨n, z⟩ := p
      rw [hd] at h
      obtain ⟨k, hk, -, hg⟩ := dsz_sound _ _ _ _ _ _ hd
      have hkn : k = n := by rw [hk]; simp
      subst hkn
      have h' : (if sg.toNat = 0 then some ((k : Int), z) else if sg.toNat = 1 ∧ 0 < k then some (-(k : Int), z) else none) = some (v, r) := h
      split at h'
      · rename_i h0
        cases h'
        have := hg 5 (by simp; omega)
        unfold numB
        rw [if_neg (by omega), if_neg (by omega), this]
        have : sg = 0 := by have := b8_byte sg; rw [h0] at this; rw [← this]; rfl
        rw [this]; rfl
      · split at h'
        · rename_i h1
          cases h'
          have := hg 5 (by simp; omega)
          unfold numB
          rw [if_pos (by omega), if_pos (by omega), Int.neg_neg, this]
          have : sg = 1 := by have := b8_byte sg; rw [h1.1] at this; rw [← this]; rfl
          rw [this]; rfl
        · cases h'

theorem decNum_complete (v : Int) (r : List UInt8) (hv : -999999999 ≤ v ∧ v ≤ 999999999) : decNum (numB v ++ r) = some (v, r) := by
  unfold numB
  by_cases h : v < 0
  · obtain ⟨k, rfl⟩ : ∃ k : Nat, v = -(k : Int) := ⟨(-v).toNat, by omega⟩
    rw [if_pos h, if_pos h, Int.neg_neg]
    rw [List.cons_append, decNum_cons, dsz_complete 5 _ 0 0 k r (by simp; omega) (by simp; omega) (.inr rfl) (Nat.le_refl _)]
    simp
    omega
  · obtain ⟨k, rfl⟩ : ∃ k : Nat, v = (k : Int) := ⟨v.toNat, by omega⟩
    rw [if_neg h, if_neg h]
    rw [List.cons_append, decNum_cons, dsz_complete 5 _ 0 0 k r (by simp; omega) (by simp; omega) (.inr rfl) (Nat.le_refl _)]
    simp

/-- Kids, read; their names, if it is a form. -/
def kidsI {α : Type} (f : List UInt8 → Option (α × List UInt8)) (s : Int) : Nat → List UInt8 → Option ((List ByteArray × List α) × List UInt8)
  | 0, bs => some (([], []), bs)
  | k + 1, bs =>
    if s = 5 then
      match takeS bs with
      | none => none
      | some (x, r) => match f r with
        | none => none
        | some (t, q) => (kidsI f s k q).map fun p => ((x :: p.1.1, t :: p.1.2), p.2)
    else match f bs with
      | none => none
      | some (t, q) => (kidsI f s k q).map fun p => ((p.1.1, t :: p.1.2), p.2)

/-- A tree, read. -/
def decI : (L : Nat) → List UInt8 → Option (T L × List UInt8)
  | 0, _ => none
  | _ + 1, [] => none
  | L + 1, b :: r =>
    if b.toNat = 1 then (decNum r).map fun p => ((⟨1, p.1, ByteArray.empty, [], []⟩ : Nd (T L)), p.2)
    else if b.toNat = 2 then (takeS r).map fun p => ((⟨2, 0, p.1, [], []⟩ : Nd (T L)), p.2)
    else if b.toNat = 3 then (match r with | [] => none | c :: q => some ((⟨3, (c.toNat : Int), ByteArray.empty, [], []⟩ : Nd (T L)), q))
    else if b.toNat = 4 ∨ b.toNat = 5 ∨ b.toNat = 6 then (match r with | [] => none | c :: q => (kidsI (decI L) (b.toNat : Int) c.toNat q).map fun p => ((⟨(b.toNat : Int), 0, ByteArray.empty, p.1.1, p.1.2⟩ : Nd (T L)), p.2))
    else some ((⟨(b.toNat : Int), 0, ByteArray.empty, [], []⟩ : Nd (T L)), r)

theorem packT_deep {n : Nat} (t : T (n + 1)) (h1 : ¬ Nd.sort t = 1) (h2 : ¬ Nd.sort t = 2) (h3 : ¬ Nd.sort t = 3) : packT (n + 1) t = b8 (Nd.sort t) :: b8 (Nd.kids t).length :: (partsP (packT n) (Nd.sort t) (Nd.names t) (Nd.kids t)).flatten := by
  rw [packT, if_neg h1, if_neg h2, if_neg h3]

theorem kidsI_sound {α : Type} {f : List UInt8 → Option (α × List UInt8)} {s : Int} (pk : α → List UInt8) : ∀ (k : Nat) (bs r : List UInt8) (ns : List ByteArray) (ks : List α), kidsI f s k bs = some ((ns, ks), r) → (∀ t, t ∈ ks → ∀ q z, f q = some (t, z) → q = pk t ++ z) → ks.length = k ∧ (s = 5 → ns.length = ks.length) ∧ (s ≠ 5 → ns = []) ∧ bs = (partsP pk s ns ks).flatten ++ r := by
  intro k
  induction k with
  | zero =>
    intro bs r ns ks h _
    cases h
    exact ⟨rfl, fun _ => rfl, fun _ => rfl, by unfold partsP; split <;> simp⟩
  | succ k ih =>
    intro bs r ns ks h hk
    unfold kidsI at h
    by_cases h5 : s = 5
    · rw [if_pos h5] at h
      cases ht : takeS bs with
      | none => rw [ht] at h; cases h
      | some p =>
        obtain ⟨x, q⟩ := p
        rw [ht] at h
        cases hf : f q with
        | none => simp only [hf] at h; cases h
        | some p2 =>
          obtain ⟨t, q2⟩ := p2
          simp only [hf] at h
          cases hr : kidsI f s k q2 with
          | none => rw [hr] at h; cases h
          | some p3 =>
            obtain ⟨⟨ns', ks'⟩, r'⟩ := p3
            rw [hr] at h
            cases h
            obtain ⟨e1, e2, -, e4⟩ := ih q2 _ ns' ks' hr (fun t ht q z => hk t (List.mem_cons_of_mem _ ht) q z)
            refine ⟨by simp [e1], fun _ => by simp [e2 h5], fun h => absurd h5 h, ?_⟩
            rw [(takeS_sound ht).1, hk t (List.mem_cons_self ..) q q2 hf, e4]
            unfold partsP
            rw [if_pos h5, if_pos h5]
            simp
    · rw [if_neg h5] at h
      cases hf : f bs with
      | none => rw [hf] at h; cases h
      | some p2 =>
        obtain ⟨t, q2⟩ := p2
        rw [hf] at h
        cases hr : kidsI f s k q2 with
        | none => simp only [hr] at h; cases h
        | some p3 =>
          obtain ⟨⟨ns', ks'⟩, r'⟩ := p3
          simp only [hr] at h
          cases h
          obtain ⟨e1, -, e3, e4⟩ := ih q2 _ ns' ks' hr (fun t ht q z => hk t (List.mem_cons_of_mem _ ht) q z)
          refine ⟨by simp [e1], fun h => absurd h h5, fun _ => e3 h5, ?_⟩
          rw [hk t (List.mem_cons_self ..) bs q2 hf, e4]
          unfold partsP
          rw [if_neg h5, if_neg h5]
          simp

/-- What was read, if it is good, has these bytes. -/
theorem decI_sound : ∀ (L : Nat) (bs r : List UInt8) (t : T L) (d : Int), decI L bs = some (t, r) → goodT L t d = true → bs = packT L t ++ r := by
  intro L
  induction L with
  | zero => intro bs r t; exact Empty.elim (show Empty from t)
  | succ L ih =>
    intro bs r t d h hg
    cases bs with
    | nil => cases h
    | cons b q =>
      have hbt := b8_byte b
      unfold decI at h
      simp only [goodT, Bool.and_eq_true, List.all_eq_true] at hg
      obtain ⟨⟨-, ha⟩, hk⟩ := hg
      have ha' : aloneF (Nd.sort t) (Nd.num t) (Nd.text t) (Nd.names t) (Nd.kids t).length = true := ha
      by_cases h1 : b.toNat = 1
      · rw [if_pos h1] at h
        cases hd : decNum q with
        | none => rw [hd] at h; cases h
        | some p =>
          rw [hd] at h
          cases h
          have hv : -999999999 ≤ p.1 ∧ p.1 ≤ 999999999 := by
            have ha2 : aloneF 1 p.1 ByteArray.empty [] 0 = true := ha'
            unfold aloneF at ha2; simp at ha2; omega
          rw [decNum_sound (v := p.1) hd hv]
          have e : b = b8 1 := by rw [← hbt, h1]; rfl
          rw [e]; rfl
      rw [if_neg h1] at h
      by_cases h2 : b.toNat = 2
      · rw [if_pos h2] at h
        cases hd : takeS q with
        | none => rw [hd] at h; cases h
        | some p =>
          rw [hd] at h
          cases h
          rw [(takeS_sound (x := p.1) hd).1]
          have e : b = b8 2 := by rw [← hbt, h2]; rfl
          rw [e]; rfl
      rw [if_neg h2] at h
      by_cases h3 : b.toNat = 3
      · rw [if_pos h3] at h
        cases q with
        | nil => cases h
        | cons c q =>
          have h' : some ((⟨3, (c.toNat : Int), ByteArray.empty, [], []⟩ : Nd (T L)), q) = some (t, r) := h
          have h2' := Option.some.inj h'
          obtain ⟨rfl, rfl⟩ : (⟨3, (c.toNat : Int), ByteArray.empty, [], []⟩ : Nd (T L)) = t ∧ q = r := ⟨congrArg Prod.fst h2', congrArg Prod.snd h2'⟩
          have e : b = b8 3 := by rw [← hbt, h3]; rfl
          show b :: c :: q = [b8 3, b8 (c.toNat : Int)] ++ q
          rw [e, b8_byte]; rfl
      rw [if_neg h3] at h
      by_cases h4 : b.toNat = 4 ∨ b.toNat = 5 ∨ b.toNat = 6
      · rw [if_pos h4] at h
        cases q with
        | nil => cases h
        | cons c q =>
          have h' : ((kidsI (decI L) (b.toNat : Int) c.toNat q).map fun p => ((⟨(b.toNat : Int), 0, ByteArray.empty, p.1.1, p.1.2⟩ : Nd (T L)), p.2)) = some (t, r) := h
          cases hd : kidsI (decI L) (b.toNat : Int) c.toNat q with
          | none => rw [hd] at h'; cases h'
          | some p =>
            obtain ⟨⟨ns, ks⟩, r'⟩ := p
            rw [hd] at h'
            cases h'
            obtain ⟨e1, -, -, e4⟩ := kidsI_sound (packT L) _ _ _ _ _ hd (fun t ht q z hf => ih q z t (d + 1) hf (hk t ht))
            have hp : packT (L + 1) (⟨(b.toNat : Int), 0, ByteArray.empty, ns, ks⟩ : Nd (T L)) = b8 (b.toNat : Int) :: b8 (ks.length : Int) :: (partsP (packT L) (b.toNat : Int) ns ks).flatten := by
              have s1 : ¬ ((b.toNat : Int) = 1) := by omega
              have s2 : ¬ ((b.toNat : Int) = 2) := by omega
              have s3 : ¬ ((b.toNat : Int) = 3) := by omega
              exact packT_deep (⟨(b.toNat : Int), 0, ByteArray.empty, ns, ks⟩ : Nd (T L)) s1 s2 s3
            rw [hp, e1, b8_byte, b8_byte, e4]; rfl
      · rw [if_neg h4] at h
        cases h
        have ha2 : aloneF (b.toNat : Int) 0 ByteArray.empty [] 0 = true := ha'
        unfold aloneF at ha2
        rw [if_neg (by omega), if_neg (by omega), if_neg (by omega), if_neg (by omega), if_neg (by omega), if_neg (by omega)] at ha2
        cases ha2

theorem kidsI_complete {α : Type} {f : List UInt8 → Option (α × List UInt8)} {s : Int} (pk : α → List UInt8) : ∀ (ks : List α) (ns : List ByteArray) (r : List UInt8), (∀ t, t ∈ ks → ∀ z, f (pk t ++ z) = some (t, z)) → (s = 5 → ns.length = ks.length) → (s ≠ 5 → ns = []) → (∀ x, x ∈ ns → x.size ≤ 255) → kidsI f s ks.length ((partsP pk s ns ks).flatten ++ r) = some ((ns, ks), r) := by
  intro ks
  induction ks with
  | nil =>
    intro ns r _ h5 hn _
    have : ns = [] := by
      by_cases h : s = 5
      · exact List.eq_nil_of_length_eq_zero (h5 h)
      · exact hn h
    subst this
    show some _ = _
    unfold partsP; split <;> simp
  | cons t ks ih =>
    intro ns r hf h5 hn hx
    show kidsI f s (ks.length + 1) _ = _
    unfold kidsI
    by_cases h : s = 5
    · rw [if_pos h]
      cases ns with
      | nil => have := h5 h; simp at this
      | cons x ns =>
        have e : (partsP pk s (x :: ns) (t :: ks)).flatten ++ r = shortB x ++ (pk t ++ ((partsP pk s ns ks).flatten ++ r)) := by
          unfold partsP; rw [if_pos h, if_pos h]; simp
        rw [e, takeS_complete x _ (hx x (List.mem_cons_self ..))]
        simp only []
        rw [hf t (List.mem_cons_self ..)]
        simp only []
        rw [ih ns r (fun t ht => hf t (List.mem_cons_of_mem _ ht)) (fun h => by have := h5 h; simpa using this) (fun h' => absurd h h') (fun y hy => hx y (List.mem_cons_of_mem _ hy))]
        rfl
    · rw [if_neg h]
      have hn0 := hn h
      subst hn0
      have e : (partsP pk s [] (t :: ks)).flatten ++ r = pk t ++ ((partsP pk s [] ks).flatten ++ r) := by
        unfold partsP; rw [if_neg h, if_neg h]; simp
      rw [e, hf t (List.mem_cons_self ..)]
      simp only []
      rw [ih [] r (fun t ht => hf t (List.mem_cons_of_mem _ ht)) (fun h' => absurd h' h) (fun _ => rfl) (fun y hy => by cases hy)]
      rfl

/-- The bytes of a good tree are read as it. -/
theorem decI_complete : ∀ (L : Nat) (t : T L) (d : Int) (r : List UInt8), goodT L t d = true → cntT L t ≤ 120 → decI L (packT L t ++ r) = some (t, r) := by
  intro L
  induction L with
  | zero => intro t; exact Empty.elim (show Empty from t)
  | succ L ih =>
    intro t d r hg hc
    have hg0 := hg
    simp only [goodT, Bool.and_eq_true, List.all_eq_true] at hg
    obtain ⟨⟨-, ha⟩, hk⟩ := hg
    have ha' : aloneF (Nd.sort t) (Nd.num t) (Nd.text t) (Nd.names t) (Nd.kids t).length = true := ha
    have hcc : cntT (L + 1) t = 1 + sumL (fun k => cntT L k) (Nd.kids t) := rfl
    have hkc : ∀ k, k ∈ Nd.kids t → cntT L k ≤ 120 := fun k hkm => by
      have := sumL_mono (fun x => cntT L x) (Nd.kids t) _ hkm
      omega
    obtain ⟨s, m, x, ns, ks⟩ := t
    have ha2 : aloneF s m x ns ks.length = true := ha'
    have hkl : ks.length ≤ 119 := by
      have h1 : ∀ (l : List (T L)), (∀ y, y ∈ l → 1 ≤ cntT L y) → l.length ≤ sumL (fun k => cntT L k) l := by
        intro l
        induction l with
        | nil => intro _; simp [sumL]
        | cons a l ih =>
          intro h
          have h0 := h a (List.mem_cons_self ..)
          have h2 := ih (fun x hx => h x (List.mem_cons_of_mem _ hx))
          simp only [List.length_cons, sumL]
          omega
      have := h1 ks (fun y hy => cntT_pos L y (d + 1) (hk y hy))
      have hc' : 1 + sumL (fun k => cntT L k) ks ≤ 120 := by rw [← show cntT (L + 1) (⟨s, m, x, ns, ks⟩ : Nd (T L)) = 1 + sumL (fun k => cntT L k) ks from rfl]; exact hc
      omega
    unfold aloneF at ha2
    by_cases h1 : s = 1
    · rw [if_pos h1] at ha2
      subst h1
      simp at ha2
      obtain ⟨⟨⟨hv, hx⟩, hn⟩, hks⟩ := ha2
      have hxe : x = ByteArray.empty := by
        have h : x.data.toList = [] := by rw [← ByteArray.toList_eq]; simpa using hx
        cases x with | mk dd => simp at h; subst h; rfl
      subst hxe hn hks
      show decI (L + 1) (b8 1 :: (numB m ++ r)) = _
      unfold decI
      rw [if_pos (by rfl), decNum_complete m r (by omega)]
      rfl
    rw [if_neg h1] at ha2
    by_cases h2 : s = 2
    · rw [if_pos h2] at ha2
      subst h2
      simp [textB] at ha2
      obtain ⟨⟨⟨hm, hx, -⟩, hn⟩, hks⟩ := ha2
      subst hm hn hks
      show decI (L + 1) (b8 2 :: (shortB x ++ r)) = _
      unfold decI
      rw [if_neg (by decide), if_pos (by rfl), takeS_complete x r (by omega)]
      rfl
    rw [if_neg h2] at ha2
    by_cases h3 : s = 3
    · rw [if_pos h3] at ha2
      subst h3
      simp at ha2
      obtain ⟨⟨⟨hm, hx⟩, hn⟩, hks⟩ := ha2
      have hxe : x = ByteArray.empty := by
        have h : x.data.toList = [] := by rw [← ByteArray.toList_eq]; simpa using hx
        cases x with | mk dd => simp at h; subst h; rfl
      subst hxe hn hks
      show decI (L + 1) (b8 3 :: b8 m :: r) = _
      unfold decI
      rw [if_neg (by decide), if_neg (by decide), if_pos (by rfl)]
      obtain ⟨k, rfl⟩ : ∃ k : Nat, m = (k : Int) := ⟨m.toNat, by omega⟩
      show some ((⟨3, ((b8 (k : Int)).toNat : Int), ByteArray.empty, [], []⟩ : Nd (T L)), r) = _
      rw [b8_toNat (by omega)]
      rfl
    rw [if_neg h3] at ha2
    have hs : s = 4 ∨ s = 5 ∨ s = 6 := by
      by_cases h4 : s = 4
      · exact .inl h4
      · rw [if_neg h4] at ha2
        by_cases h5 : s = 5
        · exact .inr (.inl h5)
        · rw [if_neg h5] at ha2
          by_cases h6 : s = 6
          · exact .inr (.inr h6)
          · rw [if_neg h6] at ha2; cases ha2
    have hfacts : m = 0 ∧ x = ByteArray.empty ∧ (s = 5 → ns.length = ks.length) ∧ (s ≠ 5 → ns = []) ∧ ∀ y, y ∈ ns → y.size ≤ 255 := by
      have hxe : x.toList.isEmpty = true → x = ByteArray.empty := fun hx => by
        have h : x.data.toList = [] := by rw [← ByteArray.toList_eq]; simpa using hx
        cases x with | mk dd => simp at h; subst h; rfl
      by_cases h4 : s = 4
      · rw [if_pos h4] at ha2
        simp only [Bool.and_eq_true, beq_iff_eq] at ha2
        have hn : ns = [] := List.eq_nil_of_length_eq_zero (by have := ha2.1.2; omega)
        exact ⟨ha2.1.1.1, hxe ha2.1.1.2, fun h => by omega, fun _ => hn, fun y hy => by rw [hn] at hy; cases hy⟩
      · rw [if_neg h4] at ha2
        by_cases h5 : s = 5
        · rw [if_pos h5] at ha2
          simp only [Bool.and_eq_true, beq_iff_eq] at ha2
          exact ⟨ha2.1.1.1, hxe ha2.1.1.2, fun _ => by have := ha2.1.2; omega, fun h => absurd h5 h, fun y hy => by have := riseB_names _ ha2.2 y hy; omega⟩
        · rw [if_neg h5] at ha2
          rw [if_pos (by omega)] at ha2
          simp only [Bool.and_eq_true, beq_iff_eq] at ha2
          have hn : ns = [] := List.eq_nil_of_length_eq_zero (by have := ha2.1.2; omega)
          exact ⟨ha2.1.1.1, hxe ha2.1.1.2, fun h => by omega, fun _ => hn, fun y hy => by rw [hn] at hy; cases hy⟩
    obtain ⟨hm0, hx0, h5, hn5, hy⟩ := hfacts
    subst hm0 hx0
    have hp : packT (L + 1) (⟨s, 0, ByteArray.empty, ns, ks⟩ : Nd (T L)) = b8 s :: b8 (ks.length : Int) :: (partsP (packT L) s ns ks).flatten := by
      exact packT_deep (⟨s, 0, ByteArray.empty, ns, ks⟩ : Nd (T L)) h1 h2 h3
    have hkk := kidsI_complete (f := decI L) (s := s) (packT L) ks ns r (fun t ht z => ih t (d + 1) z (hk t ht) (hkc t ht)) h5 hn5 hy
    obtain ⟨sn, hsn⟩ : ∃ sn : Nat, s = (sn : Int) := ⟨s.toNat, by omega⟩
    subst hsn
    rw [hp]
    show decI (L + 1) (b8 (sn : Int) :: b8 (ks.length : Int) :: ((partsP (packT L) (sn : Int) ns ks).flatten ++ r)) = _
    unfold decI
    rw [b8_toNat (by omega), if_neg (by omega), if_neg (by omega), if_neg (by omega), if_pos (by omega)]
    show ((kidsI (decI L) (sn : Int) (b8 (ks.length : Int)).toNat ((partsP (packT L) (sn : Int) ns ks).flatten ++ r)).map fun p => ((⟨(sn : Int), 0, ByteArray.empty, p.1.1, p.1.2⟩ : Nd (T L)), p.2)) = _
    rw [b8_toNat (by omega), hkk]
    rfl

end Go.Proofs.Ytpnnbdejneoccaa
