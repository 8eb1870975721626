/- Digits of numbers as bytes; texts put together (layer 8). -/
import Derived.Test.YtknomegdfaicnaaMomentD
namespace Go.Proofs.Ytknomegdfaicnaa
open Go.RowKit Civ

def bytesOf' (l : List UInt8) : ByteArray := ⟨l.toArray⟩
theorem bytesOf_list (l : List UInt8) : (bytesOf' l).data.toList = l := by simp [bytesOf']
theorem bytesOf_size (l : List UInt8) : (bytesOf' l).size = l.length := by
  have : (bytesOf' l).data.toList.length = l.length := by rw [bytesOf_list]
  rwa [Array.length_toList] at this
theorem bytesOf_append (a b : List UInt8) : bytesOf' a ++ bytesOf' b = bytesOf' (a ++ b) := by
  apply ByteArray.ext
  simp [bytesOf']
/-- the last k digits of a number -/
def digs : Nat → Int → List UInt8
  | 0, _ => []
  | k + 1, n => digs k (n / 10) ++ [dg (n % 10)]
theorem digs_length : ∀ k n, (digs k n).length = k
  | 0, _ => rfl
  | k + 1, n => by unfold digs; simp [digs_length k]
theorem one_digit (n : Int) : strOfNums [48 + n % 10] = bytesOf' [dg (n % 10)] := rfl
theorem bas_digs (y m d hh hm hs : Int) : strOfNums (putAll basF y m d hh hm hs) = bytesOf' (digs 4 y ++ digs 2 m ++ digs 2 d ++ [84] ++ digs 2 hh ++ digs 2 hm ++ digs 2 hs ++ [90]) := rfl
theorem lon_digs (y m d hh hm hs : Int) : strOfNums (putAll lonF y m d hh hm hs) = bytesOf' (digs 4 y ++ [45] ++ digs 2 m ++ [45] ++ digs 2 d ++ [32] ++ digs 2 hh ++ [58] ++ digs 2 hm ++ [58] ++ digs 2 hs) := rfl
end Go.Proofs.Ytknomegdfaicnaa
