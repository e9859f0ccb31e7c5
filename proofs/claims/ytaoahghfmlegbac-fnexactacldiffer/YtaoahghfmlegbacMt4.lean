/- The program's AclSays. -/
import Derived.Test.YtaoahghfmlegbacMt3
namespace Go.Proofs.Ytaoahghfmlegbac
open Go.RowKit Go.Lib

/-- a list as it is made -/
abbrev newL (v : Value) : Obj := .cells #[v, .int .u32 0, .int .i32 0, .int .u32 0, .slice none 0 0] 57
theorem new_list {w : World} {v : Value} {L : List Ru} (h : RdR w v L) : Lst (w.alloc (newL v)) w.heap.size v L :=
  .inl ⟨by simp, by simp, by simp, by simp, by simp, by simp, by simp, h.below ((Below.refl _ _).more _)⟩
theorem below_new {w w' : World} {o : Obj} (hg : (w.alloc o).grownBy w' (some w.heap.size)) : Below w.heap.size w w' :=
  ((Below.refl w.heap.size w).more o).grown hg (by simp) (fun k e => by cases e; exact Nat.le_refl _)

end Go.Proofs.Ytaoahghfmlegbac
