/-
  Bytes as a string: the conversion of a slice that reads as a list of bytes.
-/
import Derived.Test.YtaemonjiejgciaaApp
import Derived.Laws.BytesArg
namespace Go.Proofs.Ytaemonjiejgciaa
open Go.RowKit

def strOf (bs : List UInt8) : ByteArray := ⟨bs.toArray⟩
theorem strOf_size (bs : List UInt8) : (strOf bs).size = bs.length := by simp [strOf, ByteArray.size]
theorem strOf_data (bs : List UInt8) : (strOf bs).data.toList = bs := rfl
theorem strOf_toList (s : ByteArray) : strOf s.data.toList = s := rfl

theorem conv_b (w : World) (B : Nat) (A : Option Addr) (n c : Nat) (bs : List UInt8) (hl : bs.length = n) (hr : RB w B A bs) :
    (convert 22 9 (.slice A n c)).run Try.prog w = .ok (.string (strOf bs)) w := by
  subst hl
  rcases bs with _ | ⟨b, bs⟩
  · rcases A with _ | a
    · exact run_convert_bytes_nil w 22 5 Try.underlying22 Try.underlying5 _ c 9 Try.underlying9
    · rw [run_convert_bytes_string w 22 9 5 _ _ c Try.underlying22 Try.underlying5 Try.underlying9]
      have h := run_bytesToString (P := Try.prog) w a 0 c [] (by
        have := run_loadCells_list (P := Try.prog) w a [] (fun j v hj => by simp at hj)
        simpa using this)
      exact h
  · generalize hbs : b :: bs = l at *
    obtain ⟨g, o, rfl, _, hc⟩ := hr (by rw [← hbs]; simp)
    have h := run_convert_bytes_arg (P := Try.prog) w 22 5 Try.underlying22 Try.underlying5 g o l.length c (l.map fun u => (u.toNat : Int)) (by simp) (fun i hi => by
      rw [hc i _ (List.getElem?_eq_getElem hi)]
      simp [hi]) 9 Try.underlying9
    rw [h]
    have e : strOfNums (l.map fun u => (u.toNat : Int)) = strOf l := by simp [strOfNums, strOf, Function.comp_def]
    rw [e]
end Go.Proofs.Ytaemonjiejgciaa
