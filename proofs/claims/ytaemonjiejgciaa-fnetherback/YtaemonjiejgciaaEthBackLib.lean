/-
  What the bytes of a valid frame are read as: the frame. Plain: nothing here speaks of the program.
-/
import Derived.Test.YtaemonjiejgciaaEthRdLib
namespace Go.Proofs.Ytaemonjiejgciaa
open Go.RowKit

theorem be_put16 (n : Int) (h : 0 ≤ n ∧ n ≤ 65535) : (be (put16 n) : Int) = n := by
  have e : be (put16 n) = 256 * (byteOf (n / 256)).toNat + (byteOf n).toNat := by simp [be, put16]
  have h1 := byteOf_val (n / 256)
  have h2 := byteOf_val n
  rw [e]
  omega
theorem be_put32W (n : Int) : (be (put32 n) : Int) = n % 4294967296 := by
  have e : be (put32 n) = 256 * (256 * (256 * (byteOf (n / 16777216)).toNat + (byteOf (n / 65536)).toNat) + (byteOf (n / 256)).toNat) + (byteOf n).toNat := by simp [be, put32]
  have h1 := byteOf_val (n / 16777216)
  have h2 := byteOf_val (n / 65536)
  have h3 := byteOf_val (n / 256)
  have h4 := byteOf_val n
  rw [e]
  omega
theorem be_mac (n : Int) (h : 0 ≤ n ∧ n ≤ 281474976710655) : (be (mac n) : Int) = n := by
  have h1 := be_put16 (n / 4294967296) (by omega)
  have h2 := be_put32W n
  unfold mac
  rw [be_append, show (put32 n).length = 4 from rfl]
  omega
theorem num_at (a b c : List UInt8) (k s : Nat) (ha : a.length = k) (hb : b.length = s) : num (a ++ (b ++ c)) k s = be b := by
  unfold num
  rw [List.drop_left' ha, List.take_left' hb]

theorem read_plain (x : Eh) (ds : List UInt8) (hok : x.ok ds.length = true) (ht : x.t = -1) : rdc (x.top ++ ds) = 0 ∧ rdx (x.top ++ ds) = x ∧ rdb (x.top ++ ds) = ds := by
  obtain ⟨hd, hs, htt, hk, hn⟩ := (x.ok_iff ds.length).1 hok
  have hh : x.head = 14 := by simp [Eh.head, ht]
  have hlen : x.top.length = 14 := by have := x.top_length; omega
  have e : x.top = mac x.d ++ (mac x.s ++ put16 x.k) := by simp [Eh.top, ht]
  have n0 : ((num (x.top ++ ds) 0 6 : Nat) : Int) = x.d := by
    have := num_at [] (mac x.d) ((mac x.s ++ put16 x.k) ++ ds) 0 6 rfl rfl
    rw [e, List.append_assoc]
    rw [List.nil_append] at this
    rw [this, be_mac _ hd]
  have n6 : ((num (x.top ++ ds) 6 6 : Nat) : Int) = x.s := by
    have := num_at (mac x.d) (mac x.s) (put16 x.k ++ ds) 6 6 rfl rfl
    rw [e, List.append_assoc, List.append_assoc]
    rw [this, be_mac _ hs]
  have n12 : ((num (x.top ++ ds) 12 2 : Nat) : Int) = x.k := by
    have := num_at (mac x.d ++ mac x.s) (put16 x.k) ds 12 2 rfl rfl
    rw [e, List.append_assoc, List.append_assoc, ← List.append_assoc (mac x.d)]
    rw [this, be_put16 _ (by omega)]
  have htg : tagged (x.top ++ ds) = false := by
    unfold tagged
    rw [decide_eq_false_iff_not]
    omega
  have hrk : rdKind (x.top ++ ds) = x.k := by simp only [rdKind, htg, n12]; rfl
  have hlt : (x.top ++ ds).length = 14 + ds.length := by rw [List.length_append, hlen]
  have hrc : rdc (x.top ++ ds) = 0 := by
    rw [rdc_rest (by omega) (by omega) (by simp [htg]), hrk]
    have : kindOk x.k = true := by simp only [kindOk, decide_eq_true_eq]; exact hk
    rw [this]
    rfl
  refine ⟨hrc, ?_, ?_⟩
  · simp only [rdx, hrc, if_true, n0, n6, hrk, rdTag, htg]
    rw [show (if false = true then ((num (x.top ++ ds) 14 2 : Nat) : Int) else -1) = x.t from ht.symm]
  · simp only [rdb, hrc, if_true, rdOff, htg]
    exact List.drop_left' hlen

theorem read_tag (x : Eh) (ds : List UInt8) (hok : x.ok ds.length = true) (ht : ¬ x.t = -1) : rdc (x.top ++ ds) = 0 ∧ rdx (x.top ++ ds) = x ∧ rdb (x.top ++ ds) = ds := by
  obtain ⟨hd, hs, htt, hk, hn⟩ := (x.ok_iff ds.length).1 hok
  have hh : x.head = 18 := by simp [Eh.head, ht]
  have hlen : x.top.length = 18 := by have := x.top_length; omega
  have e : x.top = mac x.d ++ (mac x.s ++ (put16 33024 ++ (put16 x.t ++ put16 x.k))) := by simp [Eh.top, ht]
  have n0 : ((num (x.top ++ ds) 0 6 : Nat) : Int) = x.d := by
    have := num_at [] (mac x.d) ((mac x.s ++ (put16 33024 ++ (put16 x.t ++ put16 x.k))) ++ ds) 0 6 rfl rfl
    rw [e, List.append_assoc]
    rw [List.nil_append] at this
    rw [this, be_mac _ hd]
  have n6 : ((num (x.top ++ ds) 6 6 : Nat) : Int) = x.s := by
    have := num_at (mac x.d) (mac x.s) ((put16 33024 ++ (put16 x.t ++ put16 x.k)) ++ ds) 6 6 rfl rfl
    rw [e, List.append_assoc, List.append_assoc]
    rw [this, be_mac _ hs]
  have n12 : ((num (x.top ++ ds) 12 2 : Nat) : Int) = 33024 := by
    have := num_at (mac x.d ++ mac x.s) (put16 33024) ((put16 x.t ++ put16 x.k) ++ ds) 12 2 rfl rfl
    rw [e, List.append_assoc, List.append_assoc, ← List.append_assoc (mac x.d), List.append_assoc (put16 33024)]
    rw [this, be_put16 _ (by omega)]
  have n14 : ((num (x.top ++ ds) 14 2 : Nat) : Int) = x.t := by
    have := num_at ((mac x.d ++ mac x.s) ++ put16 33024) (put16 x.t) (put16 x.k ++ ds) 14 2 rfl rfl
    rw [e, show mac x.d ++ (mac x.s ++ (put16 33024 ++ (put16 x.t ++ put16 x.k))) ++ ds = ((mac x.d ++ mac x.s) ++ put16 33024) ++ (put16 x.t ++ (put16 x.k ++ ds)) by simp]
    rw [this, be_put16 _ (by omega)]
  have n16 : ((num (x.top ++ ds) 16 2 : Nat) : Int) = x.k := by
    have := num_at (((mac x.d ++ mac x.s) ++ put16 33024) ++ put16 x.t) (put16 x.k) ds 16 2 rfl rfl
    rw [e, show mac x.d ++ (mac x.s ++ (put16 33024 ++ (put16 x.t ++ put16 x.k))) ++ ds = (((mac x.d ++ mac x.s) ++ put16 33024) ++ put16 x.t) ++ (put16 x.k ++ ds) by simp]
    rw [this, be_put16 _ (by omega)]
  have htg : tagged (x.top ++ ds) = true := by
    unfold tagged
    rw [decide_eq_true_eq]
    omega
  have hrk : rdKind (x.top ++ ds) = x.k := by simp only [rdKind, htg, if_true, n16]
  have hlt : (x.top ++ ds).length = 18 + ds.length := by rw [List.length_append, hlen]
  have hrc : rdc (x.top ++ ds) = 0 := by
    rw [rdc_rest (by omega) (by omega) (by omega), hrk]
    have : kindOk x.k = true := by simp only [kindOk, decide_eq_true_eq]; exact hk
    rw [this]
    rfl
  refine ⟨hrc, ?_, ?_⟩
  · simp only [rdx, hrc, if_true, n0, n6, hrk, rdTag, htg, n14]
  · simp only [rdb, hrc, if_true, rdOff, htg]
    exact List.drop_left' hlen

theorem read_back (x : Eh) (ds : List UInt8) (hok : x.ok ds.length = true) : rdc (x.bytes ds) = 0 ∧ rdx (x.bytes ds) = x ∧ rdb (x.bytes ds) = ds := by
  have e : x.bytes ds = x.top ++ ds := by simp [Eh.bytes, hok]
  rw [e]
  by_cases ht : x.t = -1
  · exact read_plain x ds hok ht
  · exact read_tag x ds hok ht
end Go.Proofs.Ytaemonjiejgciaa
