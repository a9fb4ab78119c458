/- What the two digests are at the texts that the papers name, in digits. No condition. -/
import Derived.Test.YtnoabinodojkiaaDoorDc
namespace Go.Proofs.YtnoabinodojkiaaDoor.Dg
open Go By
theorem abc_md5 : hx (md5 [97, 98, 99]) = [57, 48, 48, 49, 53, 48, 57, 56, 51, 99, 100, 50, 52, 102, 98, 48, 100, 54, 57, 54, 51, 102, 55, 100, 50, 56, 101, 49, 55, 102, 55, 50] := by decide +kernel
theorem nil_md5 : hx (md5 []) = [100, 52, 49, 100, 56, 99, 100, 57, 56, 102, 48, 48, 98, 50, 48, 52, 101, 57, 56, 48, 48, 57, 57, 56, 101, 99, 102, 56, 52, 50, 55, 101] := by decide +kernel
theorem abc_sha1 : hx (sha1 [97, 98, 99]) = [97, 57, 57, 57, 51, 101, 51, 54, 52, 55, 48, 54, 56, 49, 54, 97, 98, 97, 51, 101, 50, 53, 55, 49, 55, 56, 53, 48, 99, 50, 54, 99, 57, 99, 100, 48, 100, 56, 57, 100] := by decide +kernel
end Go.Proofs.YtnoabinodojkiaaDoor.Dg
