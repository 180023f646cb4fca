/-
  What the specification draws: l5Tree.
-/
import Derived.Test.YtpalkdcgbbbmeaaGreatDoorDT3
import Derived.Test.YtpalkdcgbbbmeaaGreatDoorDT5
namespace Go.Proofs.YtpalkdcgbbbmeaaGreatDoor
open Go.RowKit

theorem l5Tree_step (d : Nat) (hn : DrawTSaid d) : DrawTSaid (d + 1) := by
  intro m R ao L cap p k S g c0 c1 c2 w hdk hg hcn hk hS h hp
  cases m with
  | zero => exact hk.elim
  | succ m =>
    have hpt : pt (d + 1) = 4 + 40 * pt d := rfl
    rw [hpt] at hp ⊢
    obtain ⟨h39, hfew⟩ := kids_few hg hcn
    have hdd := hdk.2.2.2.2
    have hsh := hdk.2.2.1
    obtain ⟨rfl, hwf, hstr, hrow⟩ := hk
    rcases goodK_cases hg with ⟨rfl, -⟩ | ⟨rfl, -⟩ | ⟨rfl, -⟩ | ⟨x, rfl, hx, -⟩ | ⟨x, rfl, hx, -⟩ | ⟨na, ki, rfl, hl, hnm, hkk, -⟩
    · obtain ⟨a, c, rfl, -⟩ := hstr
      obtain ⟨a', c', rfl, -⟩ := hrow
      exact l5Tree_num m d R ao L cap p w h a a' c c' hp
    · obtain ⟨a, c, rfl, -⟩ := hstr
      obtain ⟨a', c', rfl, -⟩ := hrow
      exact l5Tree_text m d R ao L cap p w h a a' c c' hp
    · obtain ⟨a, c, rfl, -⟩ := hstr
      obtain ⟨a', c', rfl, -⟩ := hrow
      exact l5Tree_flag m d R ao L cap p w h a a' c c' hp
    · obtain ⟨a, c, rfl, -⟩ := hstr
      obtain ⟨a', c', rfl, -, hc⟩ := hrow
      obtain ⟨b, off, rfl, hB, hcell⟩ := hc (by simp)
      obtain ⟨q0, q1, q2, h0, h1, h2, hkx⟩ := hcell 0 (by simp)
      exact l5Tree_list m d R hn ao L cap p x S (g + 1) w h a c c' b off q0 q1 q2 (by simpa using hdd x (by simp)) hx (hfew x (by simp)).2 hS hB (by simpa using h0) (by simpa using h1) (by simpa using h2) hkx hp
    · obtain ⟨a, c, rfl, -⟩ := hstr
      obtain ⟨a', c', rfl, -, hc⟩ := hrow
      obtain ⟨b, off, rfl, hB, hcell⟩ := hc (by simp)
      obtain ⟨q0, q1, q2, h0, h1, h2, hkx⟩ := hcell 0 (by simp)
      exact l5Tree_maybe m d R hn ao L cap p x S (g + 1) w h a c c' b off q0 q1 q2 (by simpa using hdd x (by simp)) hx (hfew x (by simp)).2 hS hB (by simpa using h0) (by simpa using h1) (by simpa using h2) hkx hp
    · have hstr' := hstr
      have hrow' := hrow
      obtain ⟨a, c, rfl, -⟩ := hstr'
      obtain ⟨a', c', rfl, -⟩ := hrow'
      have e1 : na.length = ki.length := hl
      rw [show (Kd.names (⟨5, na, ki⟩ : Kd (K m))).length = ki.length from e1] at hstr ⊢
      exact l5Tree_form m d R hn ao L cap p na ki ki.length S (g + 1) w h a' a c c' e1 rfl h39 (fun k hk => ⟨by simpa using hdd k hk, hfew k hk⟩) hsh hS hstr hrow hp

theorem l5Tree_any : ∀ d, DrawTSaid d := by
  intro d
  induction d with
  | zero =>
    intro m R ao L cap p k S g c0 c1 c2 w hdk
    cases m with
    | zero => exact hdk.elim
    | succ m => exact absurd hdk.1 (by omega)
  | succ d ih => exact l5Tree_step d ih

end Go.Proofs.YtpalkdcgbbbmeaaGreatDoor
