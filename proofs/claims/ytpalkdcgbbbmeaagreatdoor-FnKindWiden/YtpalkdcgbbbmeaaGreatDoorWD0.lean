/-
  Plain mathematics: what comes of widening a tree.
-/
import Derived.Test.YtpalkdcgbbbmeaaGreatDoorKFits
namespace Go.Proofs.YtpalkdcgbbbmeaaGreatDoor
open Go.RowKit

/-- A tree of its parts. -/
def mkT (m : Nat) (so nu : Int) (tx : ByteArray) (ns : List ByteArray) (ks : List (T m)) : T (m + 1) := (⟨so, nu, tx, ns, ks⟩ : Nd (T m))

/-- Nothing, as a tree of a schema that may be nothing. -/
def noneT : (m : Nat) → K m → T m
  | 0, y => Empty.elim (show Empty from y)
  | m + 1, _ => mkT m 6 0 ByteArray.empty [] []

/-- The schema and the tree at a name. -/
def atName2 {α β : Type} : List ByteArray → List α → List β → ByteArray → Option (α × β)
  | s :: r, x :: xs, u :: us, c => if s = c then some (x, u) else atName2 r xs us c
  | _, _, _, _ => none

/-- Each tree of a list, by the two schemas within. -/
def mapH2 {α β γ δ : Type} (f : α → β → γ → δ) : List α → List β → List γ → List δ
  | y :: _, x :: _, us => us.map (f y x)
  | _, _, _ => []

def mapH1 {α δ : Type} (f : α → δ) : List α → List δ
  | y :: _ => [f y]
  | [] => []

/-- Each name of the second form. -/
def mapW {α β γ δ : Type} (f : α → β → γ → δ) (z : α → δ) (ns : List ByteArray) (xs : List β) (us : List γ) : List ByteArray → List α → List δ
  | s :: ss, y :: ys => (match atName2 ns xs us s with | some (x, u) => f y x u | none => z y) :: mapW f z ns xs us ss ys
  | _, _ => []

/-- What comes of widening a tree of the second schema (from) into the first (to). -/
def widT : (m : Nat) → K m → (n : Nat) → K n → (p : Nat) → T p → T m
  | 0, b, _, _, _, _ => Empty.elim (show Empty from b)
  | _ + 1, _, 0, a, _, _ => Empty.elim (show Empty from a)
  | _ + 1, _, _ + 1, _, 0, t => Empty.elim (show Empty from t)
  | m + 1, b, n + 1, a, p + 1, t =>
    if Kd.sort b = 6 then
      if Kd.sort a = 6 then mkT m 6 0 ByteArray.empty [] (mapH2 (fun y x u => widT m y n x p u) (Kd.kids b) (Kd.kids a) (Nd.kids t))
      else mkT m 6 0 ByteArray.empty [] (mapH1 (fun y => widT m y (n + 1) a (p + 1) t) (Kd.kids b))
    else if Kd.sort b = 4 then mkT m 4 0 ByteArray.empty [] (mapH2 (fun y x u => widT m y n x p u) (Kd.kids b) (Kd.kids a) (Nd.kids t))
    else if Kd.sort b = 5 then mkT m 5 0 ByteArray.empty (Kd.names b) (mapW (fun y x u => widT m y n x p u) (noneT m) (Kd.names a) (Kd.kids a) (Nd.kids t) (Kd.names b) (Kd.kids b))
    else mkT m (Nd.sort t) (Nd.num t) (Nd.text t) [] []

theorem widT_mm {m n p : Nat} {b : K (m + 1)} {a : K (n + 1)} {t : T (p + 1)} {y : K m} {x : K n} (hb : Kd.sort b = 6) (ha : Kd.sort a = 6) (ky : Kd.kids b = [y]) (kx : Kd.kids a = [x]) :
    widT (m + 1) b (n + 1) a (p + 1) t = mkT m 6 0 ByteArray.empty [] ((Nd.kids t).map (fun u => widT m y n x p u)) := by
  rw [widT, if_pos hb, if_pos ha, ky, kx, mapH2]

theorem widT_xm {m n p : Nat} {b : K (m + 1)} {a : K (n + 1)} {t : T (p + 1)} {y : K m} (hb : Kd.sort b = 6) (ha : Kd.sort a ≠ 6) (ky : Kd.kids b = [y]) :
    widT (m + 1) b (n + 1) a (p + 1) t = mkT m 6 0 ByteArray.empty [] ([widT m y (n + 1) a (p + 1) t]) := by
  rw [widT, if_pos hb, if_neg ha, ky, mapH1]

theorem widT_ll {m n p : Nat} {b : K (m + 1)} {a : K (n + 1)} {t : T (p + 1)} {y : K m} {x : K n} (hb : Kd.sort b = 4) (ky : Kd.kids b = [y]) (kx : Kd.kids a = [x]) :
    widT (m + 1) b (n + 1) a (p + 1) t = mkT m 4 0 ByteArray.empty [] ((Nd.kids t).map (fun u => widT m y n x p u)) := by
  rw [widT, if_neg (by omega), if_pos hb, ky, kx, mapH2]

theorem widT_ff {m n p : Nat} {b : K (m + 1)} {a : K (n + 1)} {t : T (p + 1)} (hb : Kd.sort b = 5) :
    widT (m + 1) b (n + 1) a (p + 1) t = mkT m 5 0 ByteArray.empty (Kd.names b) (mapW (fun y x u => widT m y n x p u) (noneT m) (Kd.names a) (Kd.kids a) (Nd.kids t) (Kd.names b) (Kd.kids b)) := by
  rw [widT, if_neg (by omega), if_neg (by omega), if_pos hb]

theorem widT_leaf {m n p : Nat} {b : K (m + 1)} {a : K (n + 1)} {t : T (p + 1)} (hb : Kd.sort b = 1 ∨ Kd.sort b = 2 ∨ Kd.sort b = 3) :
    widT (m + 1) b (n + 1) a (p + 1) t = mkT m (Nd.sort t) (Nd.num t) (Nd.text t) [] [] := by
  rw [widT, if_neg (by omega), if_neg (by omega), if_neg (by omega)]

theorem mapW_length {α β γ δ : Type} {f : α → β → γ → δ} {z : α → δ} {ns : List ByteArray} {xs : List β} {us : List γ} : ∀ (ss : List ByteArray) (ys : List α), ss.length = ys.length → (mapW f z ns xs us ss ys).length = ys.length
  | [], [], _ => rfl
  | [], _ :: _, h => by cases h
  | _ :: _, [], h => by cases h
  | _ :: ss, _ :: ys, h => by
    simp only [mapW, List.length_cons]
    rw [mapW_length ss ys (by simpa using h)]

theorem mapW_get {α β γ δ : Type} {f : α → β → γ → δ} {z : α → δ} {ns : List ByteArray} {xs : List β} {us : List γ} : ∀ (ss : List ByteArray) (ys : List α) (j : Nat) (h1 : j < ss.length) (h2 : j < ys.length) (h3 : j < (mapW f z ns xs us ss ys).length),
    (mapW f z ns xs us ss ys)[j] = (match atName2 ns xs us ss[j] with | some (x, u) => f ys[j] x u | none => z ys[j])
  | [], _, _, h1, _, _ => absurd h1 (Nat.not_lt_zero _)
  | _ :: _, [], _, _, h2, _ => absurd h2 (Nat.not_lt_zero _)
  | s :: ss, y :: ys, 0, _, _, _ => rfl
  | s :: ss, y :: ys, j + 1, h1, h2, h3 => by
    have := mapW_get (f := f) (z := z) (ns := ns) (xs := xs) (us := us) ss ys j (by simpa using h1) (by simpa using h2) (by simpa [mapW] using h3)
    simpa [mapW] using this

theorem atName2_no {α β : Type} : ∀ (l : List ByteArray) (xs : List α) (us : List β) (c : ByteArray), c ∉ l → atName2 l xs us c = none
  | [], _, _, _, _ => by simp [atName2]
  | _ :: _, [], _, _, _ => by simp [atName2]
  | _ :: _, _ :: _, [], _, _ => by simp [atName2]
  | s :: r, x :: xs, u :: us, c, h => by
    rw [atName2, if_neg (fun e => h (by rw [e]; exact List.mem_cons_self ..))]
    exact atName2_no r xs us c (fun h' => h (List.mem_cons_of_mem _ h'))

theorem atName2_yes {α β : Type} : ∀ (l : List ByteArray) (xs : List α) (us : List β) (i : Nat) (h1 : i < l.length) (h2 : i < xs.length) (h3 : i < us.length), Asc l → atName2 l xs us l[i] = some (xs[i], us[i])
  | [], _, _, _, h1, _, _, _ => absurd h1 (Nat.not_lt_zero _)
  | _ :: _, [], _, _, _, h2, _, _ => absurd h2 (Nat.not_lt_zero _)
  | _ :: _, _ :: _, [], _, _, _, h3, _ => absurd h3 (Nat.not_lt_zero _)
  | s :: r, x :: xs, u :: us, 0, _, _, _, _ => by simp [atName2]
  | s :: r, x :: xs, u :: us, i + 1, h1, h2, h3, ha => by
    have hne : s ≠ r[i]'(by simpa using h1) := by
      have := (List.pairwise_cons.1 ha).1 (r[i]'(by simpa using h1)) (List.getElem_mem _)
      exact lt_ne this
    have := atName2_yes r xs us i (by simpa using h1) (by simpa using h2) (by simpa using h3) (List.pairwise_cons.1 ha).2
    simpa [atName2, hne] using this

end Go.Proofs.YtpalkdcgbbbmeaaGreatDoor
