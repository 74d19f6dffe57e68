package cycle_test

import (
	"math/big"
	"math/rand"
	"slices"
	"strconv"
	"testing"

	"katabasis/api"
	"katabasis/cycle"
	"katabasis/step"
	"katabasis/word"
)

// fixedAs is Fixed of a word for which there is one.
func fixedAs(t *testing.T, m api.Map, w []int) api.Frac {
	t.Helper()
	x, e := cycle.Fixed(m, w)
	if e != api.OK {
		t.Fatalf("Fixed(%v, %v): %d", m, brief(w), e)
	}
	return x
}

// hasWord reports whether the steps of a fraction have the rests of a word again and again: after one time they lead to the fraction itself.
func hasWord(m api.Map, x *big.Rat, w []int) bool {
	y := x
	for _, r := range w {
		if restOf(y, m.Mod) != r {
			return false
		}
		y = mapped(m, r, y)
	}
	return y.Cmp(x) == 0
}

// suits reports whether a fraction is reduced, and has a denominator greater than 0 that has no common divisor with Mod but 1.
func suits(x api.Frac, mod int) bool {
	n, d := value(x.Num), value(x.Den)
	isOne := func(a, b *big.Int) bool { return new(big.Int).GCD(nil, nil, a, b).Cmp(big.NewInt(1)) == 0 }
	return d.Sign() > 0 && isOne(d, big.NewInt(int64(mod))) && isOne(new(big.Int).Abs(n), d)
}

// TestFixedHasItsWord is the first half of P6.1: the steps of Fixed have the rests of the word, and lead to itself.
func TestFixedHasItsWord(t *testing.T) {
	r := rand.New(rand.NewSource(63))
	for i := range 400 {
		m := randomMap(r)
		w := randomWord(r, m, 1+r.Intn([]int{4, 30, api.MaxWord}[i%3]))
		x := fixedAs(t, m, w)
		if !suits(x, m.Mod) || !hasWord(m, ratOf(x), w) {
			t.Errorf("Fixed(%v, %v): %v", m, brief(w), x)
		}
		line, e := word.Line(m, w)
		if x.Den == "1" {
			if n, whole, e := word.Apply(line, x.Num); n != x.Num || !whole || e != api.OK {
				t.Errorf("Fixed(%v, %v): %v, which is mapped to %s, %v, %d", m, brief(w), x, n, whole, e)
			}
		}
		if e != api.OK {
			t.Errorf("Line(%v, %v): %d", m, brief(w), e)
		}
	}
}

// TestOnlyFixed is the second half of P6.1: whichever fraction comes back to itself, it is Fixed of the word of its rests.
func TestOnlyFixed(t *testing.T) {
	r := rand.New(rand.NewSource(64))
	list, found := maps(), 0
	for range 80 {
		list = append(list, randomMap(r))
	}
	for _, m := range list {
		for range 60 {
			x := big.NewRat(int64(r.Intn(400)-200), int64(1+r.Intn(40)))
			if !suits(fracOf(x), m.Mod) {
				continue
			}
			for range 80 {
				x = mapped(m, restOf(x, m.Mod), x)
			}
			if w := wordBack(m, x); w != nil {
				found++
				checkFixed(t, m, w, fracOf(x), api.OK)
				checkFixed(t, m, slices.Concat(w, w), fracOf(x), api.OK)
			}
		}
	}
	if found < 1000 {
		t.Errorf("only %d fractions are in a cycle", found)
	}
}

// wordBack is the word of a fraction until it comes back to itself; nil if it does not soon.
func wordBack(m api.Map, x *big.Rat) []int {
	var w []int
	for y := x; len(w) < api.MaxWord/2; {
		w = append(w, restOf(y, m.Mod))
		if y = mapped(m, w[len(w)-1], y); y.Cmp(x) == 0 {
			return w
		}
	}
	return nil
}

// TestTurned is P6.2: wherever the word begins.
func TestTurned(t *testing.T) {
	r := rand.New(rand.NewSource(65))
	for i := range 200 {
		m := randomMap(r)
		w := randomWord(r, m, 1+r.Intn([]int{5, 20, 60}[i%3]))
		xs, e := cycle.Turn(m, w)
		if len(xs) != len(w) || e != api.OK {
			t.Errorf("Turn(%v, %v): %d fractions, %d", m, brief(w), len(xs), e)
			continue
		}
		for by, x := range xs {
			checkFixed(t, m, turned(w, by), x, api.OK)
			checkTurn(t, m, turned(w, by), slices.Concat(xs[by:], xs[:by]), api.OK)
		}
	}
}

// TestAllLoops is the first half of P6.3, without any word: a number of a range that comes back to itself within so many steps, by step.Step, is in a loop, and one that does not is in none.
func TestAllLoops(t *testing.T) {
	r := rand.New(rand.NewSource(66))
	list, found := maps(), 0
	for range 40 {
		list = append(list, randomMap(r))
	}
	for _, m := range list {
		most := 1 + r.Intn(greatestMost(m.Mod))
		loops, e := cycle.Loops(m, most)
		if e != api.OK {
			t.Fatalf("Loops(%v, %d): %d", m, most, e)
		}
		lengths := map[string]int{}
		for _, l := range loops {
			for _, n := range l.Numbers {
				lengths[n] = len(l.Numbers)
			}
		}
		for i := -600; i <= 600; i++ {
			n := strconv.Itoa(i)
			back := stepsBack(t, m, n, most)
			if lengths[n] != back {
				t.Errorf("Loops(%v, %d): %s is in a loop of %d numbers, but comes back after %d steps", m, most, n, lengths[n], back)
			}
			if back > 0 {
				found++
			}
		}
	}
	if found < 200 {
		t.Errorf("only %d numbers are in a loop", found)
	}
}

// stepsBack is after how many steps, at most so many, a number comes back to itself; 0 if it does not.
func stepsBack(t *testing.T, m api.Map, n string, most int) int {
	t.Helper()
	x := n
	for i := range most {
		next, e := step.Step(m, x)
		if e != api.OK {
			t.Fatalf("Step(%v, %s): %d", m, x, e)
		}
		if next == n {
			return i + 1
		}
		x = next
	}
	return 0
}

// TestLoopsAreCycles is the second half of P6.3: each loop is the cycle of its numbers, from the least one on, of at most so many; none occurs twice, and they are in order.
func TestLoopsAreCycles(t *testing.T) {
	r := rand.New(rand.NewSource(67))
	list := maps()
	for range 40 {
		list = append(list, randomMap(r))
	}
	for _, m := range list {
		most := greatestMost(m.Mod)
		loops, e := cycle.Loops(m, most)
		if e != api.OK {
			t.Fatalf("Loops(%v, %d): %d", m, most, e)
		}
		met := map[string]bool{}
		for i, l := range loops {
			checkLoop(t, m, l, most, met)
			if i > 0 && !inOrder(loops[i-1].Numbers, l.Numbers) {
				t.Errorf("Loops(%v, %d): %v before %v", m, most, loops[i-1], l)
			}
		}
	}
}

func checkLoop(t *testing.T, m api.Map, l api.Loop, most int, met map[string]bool) {
	t.Helper()
	if len(l.Numbers) == 0 || len(l.Numbers) > most {
		t.Errorf("%v: a loop of %d numbers", m, len(l.Numbers))
	}
	for i, n := range l.Numbers {
		next, e := step.Step(m, n)
		if met[n] || e != api.OK || next != l.Numbers[(i+1)%len(l.Numbers)] || value(n).Cmp(value(l.Numbers[0])) < 0 {
			t.Errorf("%v: %v is no loop from its least number on, or has numbers of another one", m, l)
		}
		met[n] = true
	}
}

func inOrder(a, b []string) bool {
	if len(a) != len(b) {
		return len(a) < len(b)
	}
	return value(a[0]).Cmp(value(b[0])) < 0
}

// TestPrimitiveWords is P6.4: the word of exactly one loop begins a primitive word somewhere if its Fixed is an integer; and each loop has such a word.
func TestPrimitiveWords(t *testing.T) {
	for _, m := range maps() {
		most := greatestMost(m.Mod)
		for most > 2 && len(allWords(m.Mod, most)) > 1100 {
			most--
		}
		loops, e := cycle.Loops(m, most)
		if e != api.OK {
			t.Fatalf("Loops(%v, %d): %d", m, most, e)
		}
		words := wordsOf(t, m, loops)
		for length := range most {
			for _, w := range allWords(m.Mod, length+1) {
				want := 0
				if primitive(w) && fixedAs(t, m, w).Den == "1" {
					want = 1
				}
				if got := turnsAmong(words, w); got != want {
					t.Errorf("%v: the word %v has %d loops instead of %d", m, w, got, want)
				}
			}
		}
	}
}

// wordsOf are the words of the first numbers of loops, each as long as its loop.
func wordsOf(t *testing.T, m api.Map, loops []api.Loop) [][]int {
	t.Helper()
	var words [][]int
	for _, l := range loops {
		w, e := word.Word(m, l.Numbers[0], len(l.Numbers))
		if e != api.OK {
			t.Fatalf("Word(%v, %s): %d", m, l.Numbers[0], e)
		}
		words = append(words, w)
	}
	return words
}

// turnsAmong is how many words of a list a word is, up to where it begins.
func turnsAmong(words [][]int, w []int) int {
	many := 0
	for _, v := range words {
		for by := range v {
			if slices.Equal(turned(v, by), w) {
				many++
				break
			}
		}
	}
	return many
}
