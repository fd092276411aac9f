package audit_test

import (
	"fmt"
	"math/big"
	"slices"
	"strings"
	"testing"

	"hustings/api"
	"hustings/audit"
	"hustings/fold"
)

// sampleModel is the i-th number.
func sampleModel(seed string, total, i int) int {
	tag := fold.Tag("sample", []string{seed, string([]byte{0, 0, byte(i >> 8), byte(i)})})
	n := new(big.Int).SetBytes([]byte(tag))
	return int(n.Mod(n, big.NewInt(int64(total))).Int64())
}

func TestU1Sample(t *testing.T) {
	got, e := audit.Sample("seed", 1000, 5)
	same(t, "five of a thousand", got, e, []int{730, 896, 560, 795, 847})
	for _, seed := range []string{"", "seed", "\x00\xff", strings.Repeat("s", 1000)} {
		for _, total := range []int{1, 2, 3, 10, 255, 256, 257, 65536, 1048575, 1048576} {
			for _, n := range []int{0, 1, 7, 257, 1024} {
				got, e := audit.Sample(seed, total, n)
				var want []int
				for i := range n {
					want = append(want, sampleModel(seed, total, i))
				}
				same(t, fmt.Sprintf("%.10q, %d of %d", seed, n, total), got, e, want)
			}
		}
	}
}

func TestU1Range(t *testing.T) {
	for _, total := range []int{least, -1, 0, 1, 1 << 20, 1<<20 + 1, 1<<32 + 1, most} {
		for _, n := range []int{least, -1, 0, 1024, 1025, 1<<32 + 1, most} {
			got, e := audit.Sample("seed", total, n)
			if total >= 1 && total <= 1<<20 && n >= 0 && n <= 1024 {
				if e != api.OK || len(got) != n {
					t.Errorf("%d of %d: %d come, error %d", n, total, len(got), e)
				}
				continue
			}
			fails(t, fmt.Sprintf("%d of %d", n, total), got, e, api.ErrRange)
		}
	}
}

// Who draws more later has the same ballots first.
func TestU1GoesOn(t *testing.T) {
	all, _ := audit.Sample("seed", 777, 1024)
	for n := range 1024 {
		if got, e := audit.Sample("seed", 777, n); e != api.OK || !slices.Equal(got, all[:n]) {
			t.Fatalf("%d come otherwise", n)
		}
	}
}
