package num_test

import (
	"math"
	"math/big"
	"math/rand"
	"strings"
	"testing"

	"katabasis/api"
	"katabasis/num"
)

// The least and the greatest sizes of numbers of exactly MaxDigits digits.
var (
	nines = strings.Repeat("9", api.MaxDigits)
	tens  = power10(api.MaxDigits - 1)
)

// wrong are strings that are no valid numbers.
var wrong = []string{
	"", "-", "--1", "-+1", "+1", "+0", "-0", "00", "007", "-007", "-00", " 1", "1 ", "1\n", "1.0", "1e3", "0x1",
	"1_000", "1,000", "a", "1a", "-a", "1-", "1-1", "1/", "1:", "\x00", "1\x00", "\xff", "1\xff", "\u0663", "\uff11", "1\uff11", "\u00bd",
	strings.Repeat("9", api.MaxDigits+1), "-" + strings.Repeat("9", api.MaxDigits+1), "0" + strings.Repeat("1", api.MaxDigits-1),
	"-0" + strings.Repeat("1", api.MaxDigits-1), strings.Repeat("9", api.MaxDigits-1) + "x", strings.Repeat("-", 5000),
}

// samples are numbers at which sizes change: around 0, around powers of 2 and 10, and of MaxDigits digits.
var samples = []string{
	"0", "1", "-1", "2", "-2", "3", "7", "-7", "9", "10", "-10", "27", "99", "100", "-101", "255", "256",
	"999999999", "1000000000", "-1000000000", "1000000001", "999999999999999999", "1000000000000000000",
	"-1000000000000000001", "2147483647", "-2147483648", "4294967295", "4294967296", "9223372036854775807",
	"-9223372036854775808", "18446744073709551615", "18446744073709551616", "340282366920938463463374607431768211456",
	power10(999), "-" + power10(1000), nines[:1000], nines, "-" + nines, tens, "-" + tens, nines[1:], "5" + nines[1:],
}

func power10(n int) string { return "1" + strings.Repeat("0", n) }

// value is the number of a string, by another program.
func value(t *testing.T, s string) *big.Int {
	t.Helper()
	v, ok := new(big.Int).SetString(s, 10)
	if !ok || v.String() != s {
		t.Fatalf("%q is not the string of a number", s)
	}
	return v
}

// text is what a function must return for a number: its string, or ErrSize.
func text(v *big.Int) (string, api.Errno) {
	s := v.String()
	if len(strings.TrimPrefix(s, "-")) > api.MaxDigits {
		return "", api.ErrSize
	}
	return s, api.OK
}

// short cuts a string, so that a message can be read.
func short(s string) string {
	if len(s) <= 60 {
		return s
	}
	return s[:30] + ".." + s[len(s)-28:]
}

// random returns a number of at most so many digits, in which groups of equal digits are frequent, as these are what carries and borrows run along.
func random(r *rand.Rand, most int) string {
	digits := make([]byte, 0, most)
	for want := 1 + r.Intn(most); len(digits) < want; {
		digit, times := byte('0'+r.Intn(10)), 1
		if r.Intn(3) == 0 {
			digit, times = "0599"[r.Intn(4)], 1+r.Intn(30)
		}
		for range min(times, want-len(digits)) {
			digits = append(digits, digit)
		}
	}
	s := strings.TrimLeft(string(digits), "0")
	if s == "" {
		return "0"
	}
	if r.Intn(2) == 0 {
		return "-" + s
	}
	return s
}

// pairs calls a function for all pairs of samples, and for random ones.
func pairs(t *testing.T, check func(a, b string)) {
	t.Helper()
	for _, a := range samples {
		for _, b := range samples {
			check(a, b)
		}
	}
	r := rand.New(rand.NewSource(1))
	for i := range 2000 {
		most := []int{5, 19, 40, 300, api.MaxDigits}[i%5]
		check(random(r, most), random(r, 1+r.Intn(most)))
	}
}

// must returns the result of a call that has no error.
func must(t *testing.T, s string, e api.Errno) string {
	t.Helper()
	if e != api.OK {
		t.Fatalf("error %d", e)
	}
	return s
}

func TestValid(t *testing.T) {
	for _, s := range samples {
		if !num.Valid(s) {
			t.Errorf("%s is valid", short(s))
		}
	}
	for _, s := range wrong {
		if num.Valid(s) {
			t.Errorf("%q is not valid", short(s))
		}
	}
	for c := range 256 {
		s := "1" + string([]byte{byte(c)})
		if num.Valid(s) != (c >= '0' && c <= '9') {
			t.Errorf("Valid(%q): %v", s, num.Valid(s))
		}
	}
}

// TestForm: an argument that is not valid is refused before anything else is looked at, and every other result is zero.
func TestForm(t *testing.T) {
	two := map[string]func(a, b string) (string, api.Errno){"Add": num.Add, "Sub": num.Sub, "Mul": num.Mul, "Gcd": num.Gcd}
	for _, s := range wrong {
		for _, other := range []string{"0", "-1", nines, s} {
			for name, f := range two {
				if x, e := f(s, other); x != "" || e != api.ErrForm {
					t.Errorf("%s(%q, %s): %q, %d", name, short(s), short(other), short(x), e)
				}
				if x, e := f(other, s); x != "" || e != api.ErrForm {
					t.Errorf("%s(%s, %q): %q, %d", name, short(other), short(s), short(x), e)
				}
			}
			checkFormOfTwo(t, s, other)
			checkFormOfTwo(t, other, s)
		}
		for _, n := range []int{-1, 0, 1, api.MaxPower + 1} {
			if x, e := num.Power(s, n); x != "" || e != api.ErrForm {
				t.Errorf("Power(%q, %d): %q, %d", short(s), n, short(x), e)
			}
			if x, e := num.Rest(s, n); x != 0 || e != api.ErrForm {
				t.Errorf("Rest(%q, %d): %d, %d", short(s), n, x, e)
			}
		}
	}
}

func checkFormOfTwo(t *testing.T, a, b string) {
	t.Helper()
	if q, r, e := num.Divide(a, b); q != "" || r != "" || e != api.ErrForm {
		t.Errorf("Divide(%q, %q): %q, %q, %d", short(a), short(b), short(q), short(r), e)
	}
	if c, e := num.Compare(a, b); c != 0 || e != api.ErrForm {
		t.Errorf("Compare(%q, %q): %d, %d", short(a), short(b), c, e)
	}
}

// TestRing is P1.1 against another program, with the sizes that are too large.
func TestRing(t *testing.T) {
	pairs(t, func(a, b string) {
		x, y := value(t, a), value(t, b)
		for _, c := range []struct {
			name string
			f    func(a, b string) (string, api.Errno)
			want *big.Int
		}{
			{"Add", num.Add, new(big.Int).Add(x, y)},
			{"Sub", num.Sub, new(big.Int).Sub(x, y)},
			{"Mul", num.Mul, new(big.Int).Mul(x, y)},
		} {
			got, e := c.f(a, b)
			if want, wantE := text(c.want); got != want || e != wantE {
				t.Errorf("%s(%s, %s): %s, %d, not %s, %d", c.name, short(a), short(b), short(got), e, short(want), wantE)
			}
		}
	})
}

// TestLaws is P1.1 as it is said: sums and products do not depend on order and grouping.
func TestLaws(t *testing.T) {
	r := rand.New(rand.NewSource(2))
	for range 500 {
		a, b, c := random(r, 600), random(r, 600), random(r, 600)
		add := func(a, b string) string { s, e := num.Add(a, b); return must(t, s, e) }
		sub := func(a, b string) string { s, e := num.Sub(a, b); return must(t, s, e) }
		mul := func(a, b string) string { s, e := num.Mul(a, b); return must(t, s, e) }
		for name, holds := range map[string]bool{
			"a + b = b + a":             add(a, b) == add(b, a),
			"a b = b a":                 mul(a, b) == mul(b, a),
			"(a + b) + c = a + (b + c)": add(add(a, b), c) == add(a, add(b, c)),
			"(a b) c = a (b c)":         mul(mul(a, b), c) == mul(a, mul(b, c)),
			"a (b + c) = a b + a c":     mul(a, add(b, c)) == add(mul(a, b), mul(a, c)),
			"(a + b) - b = a":           sub(add(a, b), b) == a,
			"(a - b) + b = a":           add(sub(a, b), b) == a,
		} {
			if !holds {
				t.Errorf("not %s: %s, %s, %s", name, a, b, c)
			}
		}
	}
}

// TestSizes: the greatest results that are valid, and the least ones that are not.
func TestSizes(t *testing.T) {
	half := power10(1000)
	for _, c := range []struct {
		name string
		f    func(a, b string) (string, api.Errno)
		a, b string
		want string
	}{
		{"Add", num.Add, nines, "0", nines},
		{"Add", num.Add, nines, "1", ""},
		{"Add", num.Add, "-" + nines, "-1", ""},
		{"Add", num.Add, "-" + nines, "1", "-" + nines[1:] + "8"},
		{"Add", num.Add, nines, "-" + nines, "0"},
		{"Add", num.Add, nines, nines, ""},
		{"Add", num.Add, nines[1:], "1", tens},
		{"Sub", num.Sub, tens, "1", nines[1:]},
		{"Sub", num.Sub, "0", nines, "-" + nines},
		{"Sub", num.Sub, "-1", nines, ""},
		{"Sub", num.Sub, nines, "-1", ""},
		{"Sub", num.Sub, nines, nines, "0"},
		{"Mul", num.Mul, half, power10(999), tens},
		{"Mul", num.Mul, half, "-" + power10(999), "-" + tens},
		{"Mul", num.Mul, half, half, ""},
		{"Mul", num.Mul, "-" + half, half, ""},
		{"Mul", num.Mul, nines, "-1", "-" + nines},
		{"Mul", num.Mul, "-" + nines, "0", "0"},
		{"Mul", num.Mul, tens, "9", "9" + tens[1:]},
		{"Mul", num.Mul, tens, "10", ""},
		{"Mul", num.Mul, nines, nines, ""},
		{"Gcd", num.Gcd, "-" + nines, nines, nines},
	} {
		wantE := api.OK
		if c.want == "" {
			wantE = api.ErrSize
		}
		if got, e := c.f(c.a, c.b); got != c.want || e != wantE {
			t.Errorf("%s(%s, %s): %s, %d", c.name, short(c.a), short(c.b), short(got), e)
		}
	}
}

// TestDivision is P1.2.
func TestDivision(t *testing.T) {
	pairs(t, func(a, b string) {
		q, r, e := num.Divide(a, b)
		x, y := value(t, a), value(t, b)
		if y.Sign() <= 0 {
			if q != "" || r != "" || e != api.ErrArg {
				t.Errorf("Divide(%s, %s): %q, %q, %d", short(a), short(b), q, r, e)
			}
			return
		}
		if e != api.OK {
			t.Fatalf("Divide(%s, %s): error %d", short(a), short(b), e)
		}
		quotient, rest := value(t, q), value(t, r)
		if rest.Sign() < 0 || rest.Cmp(y) >= 0 {
			t.Errorf("Divide(%s, %s): the rest %s is out of range", short(a), short(b), short(r))
		}
		if back := quotient.Mul(quotient, y); back.Add(back, rest).Cmp(x) != 0 {
			t.Errorf("Divide(%s, %s): %s, %s", short(a), short(b), short(q), short(r))
		}
	})
}

func TestDivisionExamples(t *testing.T) {
	for _, c := range [][4]string{
		{"-7", "2", "-4", "1"},
		{"7", "2", "3", "1"},
		{"-8", "2", "-4", "0"},
		{"0", "5", "0", "0"},
		{"-1", nines, "-1", nines[1:] + "8"},
		{"1", nines, "0", "1"},
		{nines, nines, "1", "0"},
		{"-" + nines, "1", "-" + nines, "0"},
		{nines, tens, "9", nines[1:]},
		{"-" + nines, tens, "-10", "1"},
	} {
		if q, r, e := num.Divide(c[0], c[1]); q != c[2] || r != c[3] || e != api.OK {
			t.Errorf("Divide(%s, %s): %s, %s, %d", short(c[0]), short(c[1]), short(q), short(r), e)
		}
	}
	for _, b := range []string{"0", "-1", "-2", "-" + nines} {
		if q, r, e := num.Divide("6", b); q != "" || r != "" || e != api.ErrArg {
			t.Errorf("Divide(6, %s): %q, %q, %d", short(b), q, r, e)
		}
	}
}

// TestLongDivision divides numbers whose quotients and divisors end or begin with the greatest and the least digits, where a guess of a digit is wrong most often.
func TestLongDivision(t *testing.T) {
	groups := []string{"000000000", "000000001", "499999999", "500000000", "500000001", "999999998", "999999999"}
	r := rand.New(rand.NewSource(3))
	pick := func(n int) string {
		s := ""
		for range n {
			s += groups[r.Intn(len(groups))]
		}
		return strings.TrimLeft(s+"1", "0")
	}
	for range 20000 {
		b, q, rest := pick(2+r.Intn(3)), pick(1+r.Intn(3)), []string{"0", pick(0), pick(1), pick(2)}[r.Intn(4)]
		if c, _ := num.Compare(rest, b); c >= 0 {
			continue
		}
		product, _ := num.Mul(b, q)
		a, _ := num.Add(product, rest)
		if gotQ, gotR, e := num.Divide(a, b); gotQ != q || gotR != rest || e != api.OK {
			t.Fatalf("Divide(%s, %s): %s, %s, %d, not %s, %s", a, b, gotQ, gotR, e, q, rest)
		}
		below, _ := num.Sub(product, "1")
		less, _ := num.Sub(q, "1")
		greatest, _ := num.Sub(b, "1")
		if gotQ, gotR, e := num.Divide(below, b); gotQ != less || gotR != greatest || e != api.OK {
			t.Fatalf("Divide(%s, %s): %s, %s, %d, not %s, %s", below, b, gotQ, gotR, e, less, greatest)
		}
	}
}

// TestOrder is P1.3.
func TestOrder(t *testing.T) {
	r := rand.New(rand.NewSource(4))
	pairs(t, func(a, b string) {
		got, e := num.Compare(a, b)
		if want := value(t, a).Cmp(value(t, b)); got != want || e != api.OK {
			t.Errorf("Compare(%s, %s): %d, %d, not %d", short(a), short(b), got, e, want)
		}
		difference, e := num.Sub(a, b)
		if e == api.OK && (got == 1) != (value(t, difference).Sign() > 0) {
			t.Errorf("Compare(%s, %s): %d, but Sub: %s", short(a), short(b), got, short(difference))
		}
		c := random(r, 400)
		x, e1 := num.Add(a, c)
		y, e2 := num.Add(b, c)
		if e1 != api.OK || e2 != api.OK {
			return
		}
		if moved, e := num.Compare(x, y); moved != got || e != api.OK {
			t.Errorf("Compare(%s, %s): %d, with %s added %d, %d", short(a), short(b), got, short(c), moved, e)
		}
	})
	for _, c := range []struct {
		a, b string
		want int
	}{{"0", "0", 0}, {"-1", "0", -1}, {"0", "-1", 1}, {"-10", "-9", -1}, {"10", "9", 1}, {"-9", "9", -1}, {nines, tens, 1}, {"-" + nines, "-" + tens, -1}, {"-" + nines, nines, -1}} {
		if got, e := num.Compare(c.a, c.b); got != c.want || e != api.OK {
			t.Errorf("Compare(%s, %s): %d, %d", short(c.a), short(c.b), got, e)
		}
	}
}

// TestDivisors is P1.4.
func TestDivisors(t *testing.T) {
	pairs(t, func(a, b string) {
		got, e := num.Gcd(a, b)
		x, y := value(t, a), value(t, b)
		if want := new(big.Int).GCD(nil, nil, x.Abs(x), y.Abs(y)).String(); got != want || e != api.OK {
			t.Errorf("Gcd(%s, %s): %s, %d, not %s", short(a), short(b), short(got), e, short(want))
		}
	})
	r := rand.New(rand.NewSource(5))
	for range 200 {
		a, b, c := random(r, 200), random(r, 200), random(r, 200)
		x, _ := num.Mul(a, c)
		y, _ := num.Mul(b, c)
		got, e := num.Gcd(x, y)
		must(t, got, e)
		if got == "0" {
			continue
		}
		divisor, _ := num.Gcd(c, "0")
		for _, pair := range [][2]string{{x, got}, {y, got}, {got, divisor}} {
			if pair[1] == "0" {
				continue
			}
			if _, rest, e := num.Divide(pair[0], pair[1]); rest != "0" || e != api.OK {
				t.Errorf("Gcd(%s, %s): %s; %s does not divide %s", x, y, got, pair[1], pair[0])
			}
		}
	}
}

func TestDivisorsExamples(t *testing.T) {
	for _, c := range [][3]string{
		{"0", "0", "0"}, {"0", "5", "5"}, {"-5", "0", "5"}, {"0", "-5", "5"}, {"-12", "18", "6"}, {"-12", "-18", "6"},
		{"1", nines, "1"}, {"-1", "0", "1"}, {"-" + nines, "0", nines}, {"0", "-" + nines, nines}, {nines, "-9", "9"},
		{tens, power10(1000), power10(1000)}, {nines, nines[1:], "9"},
	} {
		if got, e := num.Gcd(c[0], c[1]); got != c[2] || e != api.OK {
			t.Errorf("Gcd(%s, %s): %s, %d", short(c[0]), short(c[1]), short(got), e)
		}
	}
}

// TestLongestGcd: Euclid's algorithm takes the most steps for consecutive Fibonacci numbers.
func TestLongestGcd(t *testing.T) {
	a, b := "0", "1"
	for {
		sum, e := num.Add(a, b)
		if e == api.ErrSize {
			break
		}
		a, b = b, sum
	}
	if got, e := num.Gcd(a, b); got != "1" || e != api.OK {
		t.Errorf("Gcd: %s, %d", short(got), e)
	}
}

// TestPowers is P1.5.
func TestPowers(t *testing.T) {
	r := rand.New(rand.NewSource(6))
	for i := range 300 {
		a := random(r, 1+i%40)
		most := 1800 / len(a)
		m, n := r.Intn(most/2+1), r.Intn(most/2+1)
		x, e := num.Power(a, m)
		must(t, x, e)
		y, e := num.Power(a, n)
		must(t, y, e)
		product, e := num.Mul(x, y)
		must(t, product, e)
		if got, e := num.Power(a, m+n); got != product || e != api.OK {
			t.Errorf("Power(%s, %d): %s, %d, not %s", a, m+n, short(got), e, short(product))
		}
		want := new(big.Int).Exp(value(t, a), big.NewInt(int64(m+n)), nil).String()
		if product != want {
			t.Errorf("Power(%s, %d) times Power(%s, %d): %s, not %s", a, m, a, n, short(product), short(want))
		}
	}
}

func TestPowersLimits(t *testing.T) {
	for _, c := range []struct {
		a    string
		n    int
		want string
		e    api.Errno
	}{
		{"0", 0, "1", api.OK}, {"0", 1, "0", api.OK}, {"0", api.MaxPower, "0", api.OK},
		{"1", api.MaxPower, "1", api.OK}, {"-1", api.MaxPower, "1", api.OK}, {"-1", api.MaxPower - 1, "-1", api.OK},
		{nines, 0, "1", api.OK}, {"-" + nines, 1, "-" + nines, api.OK}, {nines, 2, "", api.ErrSize}, {nines, api.MaxPower, "", api.ErrSize},
		{"10", api.MaxDigits - 1, tens, api.OK}, {"-10", api.MaxDigits - 1, "-" + tens, api.OK}, {"10", api.MaxDigits, "", api.ErrSize},
		{"-3", 5, "-243", api.OK}, {"-3", 4, "81", api.OK}, {"2", 6644, "", api.ErrSize}, {"-2", 6644, "", api.ErrSize}, {"2", 10000, "", api.ErrSize},
		{"2", -1, "", api.ErrArg}, {"2", api.MaxPower + 1, "", api.ErrArg}, {"0", api.MaxPower + 1, "", api.ErrArg}, {"1", -1, "", api.ErrArg},
		{nines, api.MaxPower + 1, "", api.ErrArg}, {"2", math.MinInt, "", api.ErrArg}, {"2", math.MaxInt, "", api.ErrArg},
	} {
		if got, e := num.Power(c.a, c.n); got != c.want || e != c.e {
			t.Errorf("Power(%s, %d): %s, %d", short(c.a), c.n, short(got), e)
		}
	}
	for _, a := range []string{"2", "-2"} {
		if got, e := num.Power(a, 6643); e != api.OK || len(strings.TrimPrefix(got, "-")) != api.MaxDigits {
			t.Errorf("Power(%s, 6643): %s, %d", a, short(got), e)
		}
	}
}

func TestRest(t *testing.T) {
	for _, a := range samples {
		for _, d := range []int{1, 2, 3, 7, 12, 997, 65536, 999999999, 1000000000, 1000000001, api.MaxRest - 1, api.MaxRest} {
			got, e := num.Rest(a, d)
			// Mod of package big is the rest of this document: it is never negative.
			if want := new(big.Int).Mod(value(t, a), big.NewInt(int64(d))).Int64(); int64(got) != want || e != api.OK {
				t.Errorf("Rest(%s, %d): %d, %d, not %d", short(a), d, got, e, want)
			}
		}
		for _, d := range []int{0, -1, -api.MaxRest, api.MaxRest + 1, math.MinInt, math.MaxInt} {
			if got, e := num.Rest(a, d); got != 0 || e != api.ErrArg {
				t.Errorf("Rest(%s, %d): %d, %d", short(a), d, got, e)
			}
		}
	}
	r := rand.New(rand.NewSource(7))
	for range 500 {
		a, d := random(r, api.MaxDigits), 1+r.Intn(api.MaxRest)
		got, e := num.Rest(a, d)
		if want := new(big.Int).Mod(value(t, a), big.NewInt(int64(d))).Int64(); int64(got) != want || e != api.OK {
			t.Errorf("Rest(%s, %d): %d, %d, not %d", short(a), d, got, e, want)
		}
	}
}
