/- OnesCount: whether a number is a power of 2. -/
import Derived.Test.YtjkphacidpongaaGreatG00
namespace Go.Proofs
namespace YtjkphacidpongaaGreat
open Go.RowKit
def on1 (n : Int) : Int := IntKind.u64.wrap (bits BinOp.and IntKind.u64 (n / 2) 6148914691236517205 + bits BinOp.and IntKind.u64 n 6148914691236517205)
def on2 (n : Int) : Int := IntKind.u64.wrap (bits BinOp.and IntKind.u64 (n / 4) 3689348814741910323 + bits BinOp.and IntKind.u64 n 3689348814741910323)
def on3 (n : Int) : Int := bits BinOp.and IntKind.u64 (IntKind.u64.wrap (n / 16 + n)) 1085102592571150095
def on4 (n : Int) : Int := IntKind.u64.wrap (n + n / 256)
def on5 (n : Int) : Int := IntKind.u64.wrap (n + n / 65536)
def on6 (n : Int) : Int := IntKind.u64.wrap (n + n / 4294967296)
def on7 (n : Int) : Int := bits BinOp.and IntKind.i64 (IntKind.i64.wrap n) 127
def onesF (n : Int) : Int := on7 (on6 (on5 (on4 (on3 (on2 (on1 n))))))

theorem ones_all : (List.range 8193).all (fun n => (onesF n == 1) == [1, 2, 4, 8, 16, 32, 64, 128, 256, 512, 1024, 2048, 4096, 8192].contains n) = true := by decide +kernel
end YtjkphacidpongaaGreat
end Go.Proofs
