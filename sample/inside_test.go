package sample

import (
	"math/big"
	"testing"
)

// TestShare holds shares against numbers of any length: such as only more loads lead to than fit in a test's memory, too.
func TestShare(t *testing.T) {
	const cap31 = 1<<31 - 1
	ns := []uint64{1, 2, 3, 5, 7, 255, 256, 257, 65535, 65536, 1_000_000}
	for shift := range 6 {
		ns = append(ns, 1<<(22+shift)-1, 1<<(22+shift), 1<<(22+shift)+1, 1<<(22+shift)*4/3)
	}
	for _, n := range ns {
		for _, sum := range []uint64{0, 1, n - 1, n, n + 1, n * 255 / 256, n << 8, n<<24 + n/2, n<<30 - 1, n << 30, n*cap31 - n/3, n*cap31 - 1, n * cap31} {
			want := new(big.Int).SetUint64(sum)
			want.Mul(want, big.NewInt(256))
			want.Div(want, new(big.Int).SetUint64(n))
			if got := share(sum, n); got != want.Uint64() {
				t.Errorf("share(%d, %d): %d; want %s", sum, n, got, want)
			}
		}
	}
}
