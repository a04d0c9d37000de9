/-
  Bytes as a string: the conversion of a slice that reads as a list of bytes.
-/
import Derived.Test.YtckakpcjbndijabDoorApp
import Derived.Laws.BytesArg
namespace Go.Proofs.YtckakpcjbndijabDoor
open Go.RowKit

def strOf (bs : List UInt8) : ByteArray := ⟨bs.toArray⟩
set_option maxRecDepth 100000 in
theorem strOf_size (bs : List UInt8) : (strOf bs).size = bs.length := by simp [strOf, ByteArray.size]
set_option maxRecDepth 100000 in
theorem strOf_data (bs : List UInt8) : (strOf bs).data.toList = bs := rfl
set_option maxRecDepth 100000 in
theorem strOf_toList (s : ByteArray) : strOf s.data.toList = s := rfl

set_option maxRecDepth 100000 in
theorem conv_b (w : World) (B : Nat) (A : Option Addr) (n c : Nat) (bs : List UInt8) (hl : bs.length = n) (hr : RB w B A bs) :
    (convert 42 9 (.slice A n c)).run Tryd.prog w = .ok (.string (strOf bs)) w := by
  subst hl
  rcases bs with _ | ⟨b, bs⟩
  · rcases A with _ | a
    · exact run_convert_bytes_nil w 42 5 Tryd.underlying42 Tryd.underlying5 _ c 9 Tryd.underlying9
    · rw [run_convert_bytes_string w 42 9 5 _ _ c Tryd.underlying42 Tryd.underlying5 Tryd.underlying9]
      have h := run_bytesToString (P := Tryd.prog) w a 0 c [] (by
        have := run_loadCells_list (P := Tryd.prog) w a [] (fun j v hj => by simp at hj)
        simpa using this)
      exact h
  · generalize hbs : b :: bs = l at *
    obtain ⟨g, o, rfl, _, hc⟩ := hr (by rw [← hbs]; simp)
    have h := run_convert_bytes_arg (P := Tryd.prog) w 42 5 Tryd.underlying42 Tryd.underlying5 g o l.length c (l.map fun u => (u.toNat : Int)) (by simp) (fun i hi => by
      rw [hc i _ (List.getElem?_eq_getElem hi)]
      simp [hi]) 9 Tryd.underlying9
    rw [h]
    have e : strOfNums (l.map fun u => (u.toNat : Int)) = strOf l := by simp [strOfNums, strOf, Function.comp_def]
    rw [e]
end Go.Proofs.YtckakpcjbndijabDoor
