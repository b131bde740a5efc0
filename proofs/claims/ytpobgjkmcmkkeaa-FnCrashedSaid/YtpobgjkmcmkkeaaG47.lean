/- Numbers that are appended. -/
import Derived.Test.YtpobgjkmcmkkeaaG44
namespace Go.Proofs.Ytpobgjkmcmkkeaa
open Go Go.RowKit Go.BigFrame

theorem icsK_one : ∀ (l : List Int), ∀ u ∈ l.flatMap (fun x : Int => [Value.int .i64 x]), u.oneCell' = true := by
  intro l u hu
  obtain ⟨x, _, hx⟩ := List.mem_flatMap.1 hu
  simp at hx
  subst hx
  rfl
theorem infoIK : (Try.prog.info? 2).map (fun i => (i.zero, i.size, i.bytes)) = some (some (.int .i64 0), 1, 8) := by kernel_rfl
section
variable {o : Oper} {a : Act} {w : World} {K : Act → World → Prop} {Q : Exit → Act → World → Prop}
theorem wp_appI (s x : Operand) (ho : o.op = .call { callee := .builtin .append, args := #[s, x], argTypes := #[30, 30] })
    (B : Nat) (da : Option Addr) (dn dcap : Nat) (ld : List Int) (hs : a.eval s = .slice da dn dcap) (hd : ResAt (fun x : Int => [Value.int .i64 x]) 1 2 w B da dn dcap ld)
    (b : Nat) (y : Int) (hx : a.eval x = .slice (some ⟨b, 0, none⟩) 1 1) (hb : Blk w b #[.int .i64 y] 2)
    (h63 : dn ≤ 9000000) (hbase : B ≤ w.heap.size)
    (h : ∀ a' cap' w', ResAt (fun x : Int => [Value.int .i64 x]) 1 2 w' B a' (dn + 1) cap' (ld ++ [y]) → w.grownBy w' (Value.ownBlock (.slice da dn dcap)) → K (a.put o.dst (.slice a' (dn + 1) cap')) w') : o.wp Try.prog a w K Q := by
  obtain ⟨i0, hi, hz0, hz1, hz2⟩ := info_parts infoIK
  exact wp_app s x _ ho B _ i0 _ 8 Try.underlying30 hi hz0 hz1 hz2 rfl (by decide) ics_len icsK_one da dn dcap ld hs hd _ 1 1 [y] hx (sl_blk ics_len hb) (fun ad h => by cases h; rfl) (fun h => by cases h) (dn + 1) rfl (by unfold maxLen; omega) (by omega) hbase h
end
end Go.Proofs.Ytpobgjkmcmkkeaa
