/- slices.Equal over two slices of ints: true just if they are as long and alike at each index. -/
import Derived.Test.YtfaggdkiffhdbaaDoorBase
namespace Go.Proofs.YtfaggdkiffhdbaaDoor
open Go.RowKit

/-- Two rows of numbers are alike. -/
def eqB (n1 n2 : Nat) (z1 z2 : Nat→Int) : Bool:=decide (n1=n2∧∀ i,i < n1→z1 i=z2 i)

theorem eqB_iff {n1 n2 : Nat} {z1 z2 : Nat→Int} : eqB n1 n2 z1 z2=true ↔ n1=n2∧∀ i,i < n1→z1 i=z2 i:=by
 unfold eqB; exact decide_eq_true_iff

theorem eqB_yes {n : Nat} {z1 z2 : Nat→Int} (h : ∀ i,i < n→z1 i=z2 i) : eqB n n z1 z2=true:=eqB_iff.2 ⟨rfl,h⟩

theorem eqB_no {n1 n2 : Nat} {z1 z2 : Nat→Int} {k : Nat} (hk : k < n1) (h : ¬ z1 k=z2 k) : eqB n1 n2 z1 z2=false:=by
 rw [Bool.eq_false_iff]; intro e; exact h ((eqB_iff.1 e).2 k hk)

theorem eqB_len {n1 n2 : Nat} {z1 z2 : Nat→Int} (h : ¬ n1=n2) : eqB n1 n2 z1 z2=false:=by
 rw [Bool.eq_false_iff]; intro e; exact h (eqB_iff.1 e).1

theorem ret_bool {a b : Bool} (h : a=b) : Ending.returned (.bool a)=.returned (.bool b):=by rw [h]

theorem upTo {p : Nat→Prop} {k : Nat} (h : ∀ j,j < k→p j) (hk : p k) : ∀ j,j < k + 1→p j:=fun j hj =>
 if e : j < k then h j e else by
  have : j=k:=by omega
  subst this; exact hk

end Go.Proofs.YtfaggdkiffhdbaaDoor
