/- Known sums and digests, reckoned by the kernel. -/
import Derived.Test.YtecioakbgggdfaaDoorDigest
import Derived.Test.YtecioakbgggdfaaDoorRefCrc
namespace Go.Proofs.YtecioakbgggdfaaDoor
open Go Go.RowKit
theorem crc_known : inv (crcL (inv 0) [49, 50, 51, 52, 53, 54, 55, 56, 57]) = 3421780262 := by decide +kernel
theorem dig_abc : digS [97, 98, 99] = [97, 57, 57, 57, 51, 101, 51, 54, 52, 55, 48, 54, 56, 49, 54, 97, 98, 97, 51, 101, 50, 53, 55, 49, 55, 56, 53, 48, 99, 50, 54, 99, 57, 99, 100, 48, 100, 56, 57, 100] := by decide +kernel
theorem dig_nil : isDig (digS []) = true := by decide +kernel
end Go.Proofs.YtecioakbgggdfaaDoor
