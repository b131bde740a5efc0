/- How great a code may be. How the drawn laws' argument, a slice of bytes, lies in memory. -/
import Derived.Test.YtpobgjkmcmkkeaaProg
import Derived.Test.YtpobgjkmcmkkeaaG02
import Derived.Test.YtpobgjkmcmkkeaaG01
import Derived.Test.YtpobgjkmcmkkeaaG41
namespace Go.Proofs.Ytpobgjkmcmkkeaa
open Go.RowKit Go.BigFrame

theorem laws_bigC (a : Option Addr) (n cap : Nat) (w : World) (hn : n ≤ 9223372036854775807) :
    Calls Try.prog 12 #[.slice a n cap] w fun e w' => e = .returned (.bool (decide (1048576 < n))) ∧ w' = w := by
  go_enter Try.func12, Try.ntmps12
  go_wp2
  go_returns
  go_light
  refine ⟨ret_bool ?_, rfl⟩
  rw [Bool.eq_iff_iff]
  simp
  omega
end Go.Proofs.Ytpobgjkmcmkkeaa
namespace Go.Proofs.Ytpobgjkmcmkkeaa
open Go.ChangeShapes Go.WideShapes Go.ChangeAt Go.RowKit Go.Deep

theorem c5 : Try.prog.cellsOf 5 = 1 := by kernel_rfl

set_option maxRecDepth 100000 in
theorem open_code {H : Type} {enc : TypeId × Value → H} {w : World} {spare : Nat → Bool} {held : Bool} {a : Option Addr} {n cap : Nat} {d : DataW H} {p : List MemPlace}
    (h : DataW.Trod enc Try.prog w 0 spare held 22 (.slice a n cap) d p) : n ≤ maxLen ∧ CodeAt w a n := by
  obtain ⟨fuel, hf⟩ := h
  rcases open_slice Try.underlying22 hf with ⟨hcs, _⟩ | ⟨ad, len, cap', m, n', D, Pl, hcs, _, hl, hm, hmm, _, hel⟩
  · simp [Value.cells] at hcs
    obtain ⟨rfl, rfl, rfl⟩ := hcs
    exact ⟨Nat.zero_le _, fun i hi => by omega⟩
  · simp [Value.cells] at hcs
    obtain ⟨rfl, rfl, rfl⟩ := hcs
    have hle : n ≤ m := by rw [hmm]; split <;> omega
    refine ⟨Nat.le_trans hl hm, fun i hi => ?_⟩
    have hone : ∀ i, i < n → ∃ z : Int, 0 ≤ z ∧ z ≤ 255 ∧ w.cell? (ad.add i) = some (.int .u8 z) := by
      intro i hi
      obtain ⟨cs', h1, h2⟩ := hel i (by omega)
      rw [c5] at h1
      obtain ⟨_, hlen, hcell⟩ := World.cells?_some h1
      obtain ⟨z, e, _, hz⟩ := DataW.trod_int Try.underlying5 h2
      match cs', hlen with
      | [x0], _ =>
        simp at e
        subst e
        have hc := hcell 0 (by omega)
        rw [Addr.add_add] at hc
        have hz2 := bounds_u8 hz
        exact ⟨z, hz2.1, hz2.2, by simpa using hc⟩
    obtain ⟨z, h0, h1, hc⟩ := hone i hi
    obtain ⟨z', _, _, hc'⟩ := hone 0 (by omega)
    obtain ⟨b, o, rfl⟩ := spotless hc' rfl
    exact ⟨b, o, z, rfl, h0, h1, by rw [Addr.add_lit] at hc; exact hc⟩
end Go.Proofs.Ytpobgjkmcmkkeaa
