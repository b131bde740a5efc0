/- Drawn lists of parts, and the extents for them. -/
import Derived.Test.YtllbojcjdpelnaaGreatVb
import Derived.Test.YtllbojcjdpelnaaGreatKc
namespace Go.Proofs.YtllbojcjdpelnaaGreat
open Go.RowKit Go.BigFrame

/-- A drawn list: small parts, but for the length of the first. -/
def PtsDrawn (l : List Pt) : Prop := ∀ p ∈ l, -9223372036854775808 ≤ p.n ∧ p.n ≤ 9223372036854775807

theorem addL_small {l : List Pt} {p : Pt} {M : Int} (hM : 0 ≤ M) (hM2 : M ≤ 1000000) (hl : ∀ q ∈ l, 0 ≤ q.n ∧ q.n ≤ M) (hp : PtSmall p) : ∀ q ∈ addL l p, 0 ≤ q.n ∧ q.n ≤ M + 9 := by
  obtain ⟨_, _, _, _, h5, h6⟩ := hp
  unfold addL
  split
  · intro q hq; simp at hq; subst hq; omega
  · rename_i q0 h0
    have hq0 := hl q0 (List.mem_of_getLast? h0)
    split
    · intro q hq
      rcases List.mem_append.1 hq with hq | hq
      · have := hl q (List.dropLast_subset l hq); omega
      · simp at hq; subst hq
        dsimp only
        unfold wrap64
        omega
    · intro q hq
      rcases List.mem_append.1 hq with hq | hq
      · have := hl q hq; omega
      · simp at hq; subst hq; omega

end Go.Proofs.YtllbojcjdpelnaaGreat
