package group

import (
	"crypto/sha256"
	"encoding/binary"
	"math"
	"math/big"
	"math/rand"
	"testing"

	"franking/api"
)

// power is the definition of a power modulo P.
func power(a, n int) int {
	return int(new(big.Int).Exp(big.NewInt(int64(a)), big.NewInt(int64(n)), big.NewInt(api.P)).Int64())
}

func TestConstants(t *testing.T) {
	if api.P != 2*api.Q+1 || !big.NewInt(api.P).ProbablyPrime(20) || !big.NewInt(api.Q).ProbablyPrime(20) {
		t.Error("P and Q")
	}
}

func TestValid(t *testing.T) {
	for x, want := range map[int]bool{0: false, 1: true, 2: false, 4: true, api.P - 1: false, api.P: false, api.P + 1: false, api.P + 4: false, -1: false, -4: false, math.MinInt: false, math.MaxInt: false} {
		if Valid(x) != want {
			t.Error(x)
		}
	}
	r := rand.New(rand.NewSource(9))
	for i := range 2000 {
		x := 1 + r.Intn(api.P-1)
		if i < 500 {
			x = i + 1
		}
		if Valid(x) != (power(x, api.Q) == 1) || Valid(x) == Valid(api.P-x) || !Valid(x*x%api.P) {
			t.Error(x)
		}
	}
}

func TestMul(t *testing.T) {
	if c, e := Mul(4, 4); c != 16 || e != api.OK {
		t.Error(c, e)
	}
	for _, x := range [][2]int{{0, 4}, {4, 0}, {2, 4}, {4, 2}, {api.P, 4}, {-4, 4}, {4, math.MaxInt}} {
		if c, e := Mul(x[0], x[1]); c != 0 || e != api.ErrGroup {
			t.Error(x, c, e)
		}
	}
	big := api.P - 2
	if c, e := Mul(big, big); c != 4 || e != api.OK {
		t.Error(c, e)
	}
}

func TestPow(t *testing.T) {
	for _, x := range []struct{ a, n, want int }{
		{4, 2, 16}, {4, api.Q, 1}, {4, 0, 1}, {4, -api.Q, 1}, {1, math.MinInt, 1}, {1, math.MaxInt, 1}, {4, 1, 4}, {4, api.Q + 1, 4}, {4, 1 - api.Q, 4}, {api.P - 2, 1, api.P - 2},
	} {
		if c, e := Pow(x.a, x.n); c != x.want || e != api.OK {
			t.Error(x, c, e)
		}
	}
	for _, a := range []int{0, 2, -1, api.P, api.P - 1, math.MinInt} {
		if c, e := Pow(a, 1); c != 0 || e != api.ErrGroup {
			t.Error(a, c, e)
		}
	}
	inverse, _ := Pow(4, -1)
	if c, _ := Mul(4, inverse); c != 1 {
		t.Error(inverse)
	}
	for _, n := range []int{math.MaxInt, math.MinInt, math.MinInt + 1} {
		m := new(big.Int).Mod(big.NewInt(int64(n)), big.NewInt(api.Q))
		if c, _ := Pow(16, n); c != power(16, int(m.Int64())) {
			t.Error(n)
		}
	}
}

func TestLaws(t *testing.T) {
	r := rand.New(rand.NewSource(10))
	random := func() int { return power(4, r.Intn(api.Q)) }
	mul := func(a, b int) int {
		c, e := Mul(a, b)
		if e != api.OK || !Valid(c) {
			t.Fatal(a, b, e)
		}
		return c
	}
	pow := func(a, n int) int {
		c, e := Pow(a, n)
		if e != api.OK || !Valid(c) {
			t.Fatal(a, n, e)
		}
		return c
	}
	for range 500 {
		a, b, c := random(), random(), random()
		m, n := int(r.Uint64()>>2)-1<<61, r.Intn(1<<31)-1<<30
		if mul(a, b) != mul(b, a) || mul(mul(a, b), c) != mul(a, mul(b, c)) || mul(a, 1) != a || mul(a, pow(a, -1)) != 1 {
			t.Error(a, b, c)
		}
		if pow(a, m+n) != mul(pow(a, m), pow(a, n)) || pow(pow(a, n), 1<<20) != pow(a, n<<20) {
			t.Error(a, m, n)
		}
	}
}

func TestElementNumber(t *testing.T) {
	for n, want := range map[int]int{1: 1, 4: 4, 2: api.P - 2} {
		if x, e := Element(n); x != want || e != api.OK {
			t.Error(n, x, e)
		}
	}
	for _, n := range []int{0, -1, api.Q + 1, math.MaxInt, math.MinInt} {
		if x, e := Element(n); x != 0 || e != api.ErrArg {
			t.Error(n, x, e)
		}
	}
	for _, x := range []int{0, 2, api.P - 1, api.P, -4, math.MaxInt} {
		if n, e := Number(x); n != 0 || e != api.ErrGroup {
			t.Error(x, n, e)
		}
	}
	if n, e := Number(api.P - 2); n != 2 || e != api.OK {
		t.Error(n, e)
	}
	r := rand.New(rand.NewSource(11))
	for i := range 1000 {
		n := 1 + r.Intn(api.Q)
		if i < 3 {
			n = []int{1, api.Q, api.Q - 1}[i]
		}
		x, e := Element(n)
		m, f := Number(x)
		if e != api.OK || f != api.OK || m != n || !Valid(x) {
			t.Error(n, x, m)
		}
		y, _ := Number(power(4, n))
		if z, _ := Element(y); z != power(4, n) {
			t.Error(n)
		}
	}
}

func TestHash(t *testing.T) {
	highest := false
	for i := range 300 {
		b := []byte{byte(i), byte(i >> 8)}
		x := sha256.Sum256([]byte("tag"))
		d := sha256.Sum256(append(x[:], b...))
		u := binary.BigEndian.Uint64(d[:])
		highest = highest || u>>63 == 1
		if n := Hash("tag", b); n != int(u&(1<<63-1))%api.Q || n < 0 || n >= api.Q {
			t.Error(i, n)
		}
	}
	if !highest {
		t.Error("no hash has the highest bit")
	}
}
