import Derived.Test.YtacbkpenohcgjaaGreatVRF
import Derived.Lib.OthersKept
set_option linter.unusedVariables false
set_option linter.unusedSimpArgs false
namespace Go.Proofs.YtacbkpenohcgjaaGreat
open Go.RowKit Mth
def dgv (c:Nat):Nat:=if 48≤c∧c≤57 then c - 48 else if 97≤c∧c≤102 then c - 97+10 else if 65≤c∧c≤70 then c - 65+10 else 99
theorem top_of_val {xs:List Nat} (h:Lim B64 xs) (hv:xs.length=0∨B64 ^ (xs.length - 1)≤val B64 xs):Top xs:=by
  unfold Top
  have h1:=tlen_le xs
  rcases Nat.lt_or_ge (tlen xs) xs.length with h2 | h2
  · exfalso
    have h3:=val_lt (lim_trimL h)
    rw [val_trimL,length_trimL] at h3
    have h4:B64 ^ tlen xs≤B64 ^ (xs.length - 1):=Nat.pow_le_pow_right (by have:=B64_pos; omega) (by omega)
    rcases hv with hv | hv
    · omega
    · omega
  · omega
theorem top_snoc {ys:List Nat} {c:Nat} (hc:c≠0):Top (ys++[c]):=top_append (zs:=ys) (by simp [Top,tlen,hc]) (by simp)
end Go.Proofs.YtacbkpenohcgjaaGreat
namespace Go.Proofs.YtacbkpenohcgjaaGreat
open Go.RowKit Mth
def bt (s:ByteArray) (i:Nat):Nat:=if h:i<s.size then (s[i]'h).toNat else 0
end Go.Proofs.YtacbkpenohcgjaaGreat
namespace Go.Proofs.YtacbkpenohcgjaaGreat
open Go.RowKit Mth
def pv (s:ByteArray) (b:Nat):Nat→Nat
  | 0=>0
  | k+1=>pv s b k*b+dgv (bt s k)
end Go.Proofs.YtacbkpenohcgjaaGreat
