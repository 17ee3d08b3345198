package gas_test

import (
	"math"
	"math/big"
	"math/rand"
	"testing"

	"ballonet/api"
	"ballonet/gas"
)

const mostAmount, mostRoom = api.MaxAmount, api.MaxRoom

func span(lo, hi int) api.Span { return api.Span{Lo: lo, Hi: hi} }

func only(n int) api.Span { return span(n, n) }

func air(press, temp api.Span) api.Air { return api.Air{Press: press, Temp: temp} }

// calm is the air of the chapter's examples.
func calm() api.Air { return air(only(10000), only(2900)) }

// widest is an air of which nothing is known.
func widest() api.Air {
	return air(span(api.MinPress, api.MaxPress), span(api.MinTemp, api.MaxTemp))
}

func cell(room, helium, air int, warm api.Span) api.Cell {
	return api.Cell{Room: room, Helium: helium, Air: air, Warm: warm}
}

// plain is the cell of the chapter's examples.
func plain() api.Cell { return cell(300, 900, 100, only(0)) }

// fullest is a cell that has the most of everything.
func fullest() api.Cell {
	return api.Cell{Room: mostRoom, Helium: mostAmount, Air: mostAmount, Warm: only(api.MaxWarm), Leak: api.MaxLeak, Owed: 999999}
}

// outside are spans that are not from least to most, though some of their ends are.
func outside(least, most int) []api.Span {
	return []api.Span{
		span(least-1, most), span(least, most+1), span(most, least), span(least-1, least-1), span(most+1, most+1),
		span(least+1, least), span(math.MinInt, most), span(least, math.MaxInt), span(math.MinInt, math.MaxInt),
		span(math.MaxInt, math.MinInt), only(math.MinInt), only(math.MaxInt),
	}
}

// beyond are numbers that are not from least to most.
func beyond(least, most int) []int {
	return []int{least - 1, most + 1, math.MinInt, math.MaxInt, least - 1<<32, most + 1<<32}
}

// inside are spans from least to most, also those of the ends alone.
func inside(least, most int) []api.Span {
	return []api.Span{span(least, most), only(least), only(most), span(least, least+1), span(most-1, most)}
}

func badAirs() []api.Air {
	var bad []api.Air
	for _, s := range outside(api.MinPress, api.MaxPress) {
		bad = append(bad, air(s, only(2900)))
	}
	for _, s := range outside(api.MinTemp, api.MaxTemp) {
		bad = append(bad, air(only(10000), s))
	}
	return append(bad, api.Air{})
}

func goodAirs() []api.Air {
	good := []api.Air{calm(), widest()}
	for _, s := range inside(api.MinPress, api.MaxPress) {
		good = append(good, air(s, only(2900)))
	}
	for _, s := range inside(api.MinTemp, api.MaxTemp) {
		good = append(good, air(only(10000), s))
	}
	return good
}

func badCells() []api.Cell {
	var bad []api.Cell
	change := func(numbers []int, f func(c *api.Cell, n int)) {
		for _, n := range numbers {
			for _, c := range []api.Cell{plain(), fullest()} {
				f(&c, n)
				bad = append(bad, c)
			}
		}
	}
	change(beyond(1, mostRoom), func(c *api.Cell, n int) { c.Room = n })
	change(beyond(0, mostAmount), func(c *api.Cell, n int) { c.Helium = n })
	change(beyond(0, mostAmount), func(c *api.Cell, n int) { c.Air = n })
	change(beyond(0, api.MaxLeak), func(c *api.Cell, n int) { c.Leak = n })
	change(beyond(0, 999999), func(c *api.Cell, n int) { c.Owed = n })
	for _, s := range outside(-api.MaxWarm, api.MaxWarm) {
		bad = append(bad, cell(300, 900, 100, s))
	}
	return append(bad, api.Cell{})
}

func goodCells() []api.Cell {
	good := []api.Cell{plain(), fullest(), cell(1, 0, 0, only(0)), cell(mostRoom, mostAmount, 0, only(0)), cell(1, 0, mostAmount, only(0))}
	for _, s := range inside(-api.MaxWarm, api.MaxWarm) {
		good = append(good, cell(300, 900, 100, s))
	}
	return good
}

func TestP3_1Checks(t *testing.T) {
	for _, a := range goodAirs() {
		if e := gas.CheckAir(a); e != api.OK {
			t.Error(a, e)
		}
	}
	for _, a := range badAirs() {
		if e := gas.CheckAir(a); e != api.ErrAround {
			t.Error(a, e)
		}
	}
	for _, c := range goodCells() {
		if e := gas.CheckCell(c); e != api.OK {
			t.Error(c, e)
		}
	}
	for _, c := range badCells() {
		if e := gas.CheckCell(c); e != api.ErrCell {
			t.Error(c, e)
		}
	}
}

// noCell checks that all functions with a cell return an error for a cell in an air, and nothing beside it.
func noCell(t *testing.T, want api.Errno, c api.Cell, a api.Air) {
	t.Helper()
	if s, e := gas.Volume(c, a); e != want || s != (api.Span{}) {
		t.Error("Volume", c, a, s, e)
	}
	if n, e := gas.Fits(c, a); e != want || n != 0 {
		t.Error("Fits", c, a, n, e)
	}
	if s, e := gas.Lift(c, a); e != want || s != (api.Span{}) {
		t.Error("Lift", c, a, s, e)
	}
	if s, e := gas.Valving(c, a); e != want || s != (api.Span{}) {
		t.Error("Valving", c, a, s, e)
	}
}

// R1 and R2: the error of the cell comes first, then that of the air.
func TestP3_1Errors(t *testing.T) {
	for _, c := range badCells() {
		noCell(t, api.ErrCell, c, calm())
		noCell(t, api.ErrCell, c, badAirs()[0])
	}
	for _, a := range badAirs() {
		noCell(t, api.ErrAround, plain(), a)
		noCell(t, api.ErrAround, fullest(), a)
	}
}

func TestP3_2CeilingErrors(t *testing.T) {
	for _, c := range badCells() {
		for _, temp := range []api.Span{only(2900), only(0)} {
			if s, e := gas.Ceiling(c, temp); e != api.ErrCell || s != (api.Span{}) {
				t.Error(c, temp, s, e)
			}
		}
	}
	for _, temp := range outside(api.MinTemp, api.MaxTemp) {
		if s, e := gas.Ceiling(plain(), temp); e != api.ErrArg || s != (api.Span{}) {
			t.Error(temp, s, e)
		}
	}
}

// The volumes, lifts and Valvings of chosen cells, by hand.
func TestP3_1Cells(t *testing.T) {
	warm := func(lo, hi int) api.Cell { return cell(300, 900, 100, span(lo, hi)) }
	for i, x := range []struct {
		c                     api.Cell
		a                     api.Air
		volume, lift, valving api.Span
		fits                  uint8
	}{
		{plain(), calm(), only(290), only(22500), only(0), api.CellFits},
		{warm(0, 29), calm(), span(290, 293), span(22500, 22790), only(0), api.CellFits},
		{plain(), air(span(9000, 9100), only(2900)), span(318, 323), only(22500), span(59, 69), api.CellBursts},
		// Cooler than the air: 29 * 1000 * -300 / 2900 is -3000, in 2800 it is -3107.1..
		{warm(-300, -300), air(only(10000), span(2800, 2900)), span(250, 260), span(19392, 19500), only(0), api.CellFits},
		// Warmer and cooler: of 2800 and 2900 the cooler air has both extremes, 300 * 29000 / 2800 is 3107.1..
		{warm(-300, 300), air(only(10000), span(2800, 2900)), span(250, 320), span(19392, 25608), span(0, 63), api.CellMay},
		// Just full, and hardly more: 1000 * 3000 / 10000.
		{warm(100, 100), calm(), only(300), only(23500), only(0), api.CellFits},
		{warm(100, 101), calm(), span(300, 301), span(23500, 23510), span(0, 1), api.CellMay},
		{warm(101, 101), calm(), span(300, 301), only(23510), only(1), api.CellBursts},
		{warm(100, 100), air(span(9999, 10000), only(2900)), span(300, 301), only(23500), span(0, 1), api.CellMay},
		{warm(100, 100), air(only(9999), only(2900)), span(300, 301), only(23500), only(1), api.CellBursts},
		// Nothing, air alone, and helium alone.
		{cell(1, 0, 0, span(-300, 300)), widest(), only(0), only(0), only(0), api.CellFits},
		{cell(300, 0, 1000, only(0)), calm(), only(290), only(0), only(0), api.CellFits},
		{cell(300, 1000, 0, only(0)), widest(), span(125, 3500), only(25000), span(0, 915), api.CellMay},
		{cell(300, 0, 1000, only(-1)), calm(), span(289, 290), only(-10), only(0), api.CellFits},
		// The most of all.
		{cell(1, mostAmount, mostAmount, span(-300, 300)), widest(), span(2000000, 76000000), span(134000000, 366000000), span(19999990, 20000000), api.CellBursts},
	} {
		if s, e := gas.Volume(x.c, x.a); s != x.volume || e != api.OK {
			t.Error(i, "volume", s, e)
		}
		if s, e := gas.Lift(x.c, x.a); s != x.lift || e != api.OK {
			t.Error(i, "lift", s, e)
		}
		if s, e := gas.Valving(x.c, x.a); s != x.valving || e != api.OK {
			t.Error(i, "valving", s, e)
		}
		if n, e := gas.Fits(x.c, x.a); n != x.fits || e != api.OK {
			t.Error(i, "fits", n, e)
		}
	}
}

func TestP3_2Ceiling(t *testing.T) {
	for i, x := range []struct {
		c          api.Cell
		temp, want api.Span
	}{
		{plain(), only(2900), span(9666, 9667)},
		{plain(), span(2700, 2900), span(9000, 9667)},
		{cell(300, 900, 100, span(-30, 100)), only(2900), span(9566, 10000)},
		{cell(300, 0, 0, span(-30, 100)), only(2900), only(0)},
		{cell(1, mostAmount, mostAmount, span(-300, 300)), span(1500, 3500), span(24000000000, 76000000000)},
		{cell(mostRoom, 1, 0, only(0)), span(1500, 3500), span(0, 1)},
		{fullest(), only(1500), only(3600)},
	} {
		if s, e := gas.Ceiling(x.c, x.temp); s != x.want || e != api.OK {
			t.Error(i, s, e)
		}
	}
}

// within returns a span somewhere from least to most, often a short one, or one at an end.
func within(r *rand.Rand, least, most int) api.Span {
	size := []int{0, 1, 5, 100, most - least}[r.Intn(5)]
	size = min(size, most-least)
	size = r.Intn(size + 1)
	lo := []int{least, most - size, least + r.Intn(most-least-size+1)}[r.Intn(3)]
	return span(lo, lo+size)
}

func someAir(r *rand.Rand) api.Air {
	return air(within(r, api.MinPress, api.MaxPress), within(r, api.MinTemp, api.MaxTemp))
}

// someCell returns a cell that is about as full as its room, if what is in it may be so much.
func someCell(r *rand.Rand, room int) api.Cell {
	c := cell(1+r.Intn(room), 0, 0, within(r, -api.MaxWarm, api.MaxWarm))
	c.Helium = min(r.Intn(4*c.Room+1), mostAmount)
	c.Air = min(r.Intn(4*c.Room+1), mostAmount) * r.Intn(2)
	return c
}

func whole(n int) *big.Rat { return new(big.Rat).SetInt64(int64(n)) }

func plus(a, b *big.Rat) *big.Rat { return new(big.Rat).Add(a, b) }

func minus(a, b *big.Rat) *big.Rat { return new(big.Rat).Sub(a, b) }

func times(a, b *big.Rat) *big.Rat { return new(big.Rat).Mul(a, b) }

func per(a, b *big.Rat) *big.Rat { return new(big.Rat).Quo(a, b) }

func down(x *big.Rat) int {
	return int(new(big.Int).Div(x.Num(), x.Denom()).Int64()) // Div rounds down, as the denominator is above 0.
}

func up(x *big.Rat) int { return -down(new(big.Rat).Neg(x)) }

// some returns a real number of a span, in thirds of its 1000th parts.
func some(r *rand.Rand, s api.Span) *big.Rat {
	return plus(whole(s.Lo), times(whole(s.Hi-s.Lo), big.NewRat(int64(r.Intn(3001)), 3000)))
}

// everywhere calls f with all pressures, temperatures and superheats at the ends of what is known, and with some more between them.
func everywhere(r *rand.Rand, a api.Air, warm api.Span, f func(press, temp, warm *big.Rat)) {
	for _, p := range []int{a.Press.Lo, a.Press.Hi} {
		for _, t := range []int{a.Temp.Lo, a.Temp.Hi} {
			for _, w := range []int{warm.Lo, warm.Hi} {
				f(whole(p), whole(t), whole(w))
			}
		}
	}
	for range 8 {
		f(some(r, a.Press), some(r, a.Temp), some(r, warm))
	}
}

// extent collects numbers, and tells the least span of them.
type extent struct{ least, most *big.Rat }

func (x *extent) add(n *big.Rat) {
	if x.least == nil || n.Cmp(x.least) < 0 {
		x.least = n
	}
	if x.most == nil || n.Cmp(x.most) > 0 {
		x.most = n
	}
}

func (x extent) span() api.Span { return span(down(x.least), up(x.most)) }

// volumeOf returns the volume of an amount.
func volumeOf(amount int, press, temp, warm *big.Rat) *big.Rat {
	return per(times(whole(amount), plus(temp, warm)), press)
}

// liftOf returns a lift as the chapter defines it: the weight of the air in place of the cell, less the cell's own.
func liftOf(c api.Cell, press, temp, warm *big.Rat) *big.Rat {
	driven := per(times(volumeOf(c.Helium+c.Air, press, temp, warm), press), temp)
	return minus(times(whole(api.AirWeight), driven), whole(api.HeliumWeight*c.Helium+api.AirWeight*c.Air))
}

// Whatever there is, volumes, lifts and ceilings are in the spans that are told; and these are no wider than they have to be.
func TestP3_8Cells(t *testing.T) {
	r := rand.New(rand.NewSource(38))
	count := map[uint8]int{}
	for i := range 3000 {
		c, a := someCell(r, []int{3, 500, mostRoom}[i%3]), someAir(r)
		var volume, lift, ceiling extent
		everywhere(r, a, c.Warm, func(press, temp, warm *big.Rat) {
			volume.add(volumeOf(c.Helium+c.Air, press, temp, warm))
			lift.add(liftOf(c, press, temp, warm))
			ceiling.add(per(times(whole(c.Helium+c.Air), plus(temp, warm)), whole(c.Room)))
		})
		if s, e := gas.Volume(c, a); s != volume.span() || e != api.OK {
			t.Error("volume", c, a, s, e)
		}
		if s, e := gas.Lift(c, a); s != lift.span() || e != api.OK {
			t.Error("lift", c, a, s, e)
		}
		if s, e := gas.Ceiling(c, a.Temp); s != ceiling.span() || e != api.OK {
			t.Error("ceiling", c, a, s, e)
		}
		want := uint8(api.CellMay)
		if volume.most.Cmp(whole(c.Room)) <= 0 {
			want = api.CellFits
		} else if volume.least.Cmp(whole(c.Room)) > 0 {
			want = api.CellBursts
		}
		count[want]++
		if n, e := gas.Fits(c, a); n != want || e != api.OK {
			t.Error("fits", c, a, n, e)
		}
	}
	if min(count[api.CellFits], count[api.CellMay], count[api.CellBursts]) < 200 {
		t.Error("hardly any of a kind:", count)
	}
}

// A warmer cell lifts no less, and without superheat the air does not matter.
func TestP3_8Warmer(t *testing.T) {
	r := rand.New(rand.NewSource(39))
	for range 2000 {
		c, a := someCell(r, 1000), someAir(r)
		before, _ := gas.Lift(c, a)
		warmer := c
		warmer.Warm.Hi += r.Intn(api.MaxWarm - c.Warm.Hi + 1)
		warmer.Warm.Lo += r.Intn(warmer.Warm.Hi - c.Warm.Lo + 1)
		after, e := gas.Lift(warmer, a)
		if e != api.OK || after.Lo < before.Lo || after.Hi < before.Hi {
			t.Error(c, warmer, a, before, after, e)
		}
		c.Warm = only(0)
		if s, e := gas.Lift(c, a); s != only(25*c.Helium) || e != api.OK {
			t.Error(c, a, s, e)
		}
	}
}

// less returns a cell without some amount.
func less(c api.Cell, n int) api.Cell {
	c.Helium -= n
	if c.Helium < 0 {
		c.Air, c.Helium = c.Air+c.Helium, 0
	}
	return c
}

// Without Valving's Hi a cell fits, without less it does not; without Valving's Lo it does not burst, without less it does.
func TestP3_9Valving(t *testing.T) {
	r := rand.New(rand.NewSource(40))
	some := 0
	for i := range 4000 {
		c, a := someCell(r, []int{3, 500, mostRoom}[i%3]), someAir(r)
		s, e := gas.Valving(c, a)
		if e != api.OK || s.Lo < 0 || s.Lo > s.Hi || s.Hi > c.Helium+c.Air {
			t.Fatal(c, a, s, e)
		}
		without := func(n int) uint8 {
			fits, e := gas.Fits(less(c, n), a)
			if e != api.OK {
				t.Error(c, n, e)
			}
			return fits
		}
		if without(s.Hi) != api.CellFits || s.Hi > 0 && without(s.Hi-1) == api.CellFits {
			t.Error("hi", c, a, s)
		}
		if without(s.Lo) == api.CellBursts || s.Lo > 0 && without(s.Lo-1) != api.CellBursts {
			t.Error("lo", c, a, s)
		}
		if s.Lo > 0 {
			some++
		}
	}
	if some < 500 {
		t.Error("hardly any cell bursts:", some)
	}
}

// At pressures from Ceiling's Hi on a cell fits, below its Lo it bursts.
func TestP3_9Ceiling(t *testing.T) {
	r := rand.New(rand.NewSource(41))
	above, below := 0, 0
	for range 4000 {
		c, temp := someCell(r, 500), within(r, api.MinTemp, api.MaxTemp)
		s, e := gas.Ceiling(c, temp)
		if e != api.OK {
			t.Fatal(c, temp, e)
		}
		fitsAt := func(press api.Span, want uint8) {
			t.Helper()
			if n, e := gas.Fits(c, air(press, temp)); e != api.OK || n != want {
				t.Error(c, temp, s, press, n, e)
			}
		}
		if lo := max(s.Hi, api.MinPress); lo <= api.MaxPress {
			above++
			fitsAt(only(lo), api.CellFits)
			fitsAt(span(lo, api.MaxPress), api.CellFits)
		}
		if hi := min(s.Lo-1, api.MaxPress); hi >= api.MinPress {
			below++
			fitsAt(only(hi), api.CellBursts)
			fitsAt(span(api.MinPress, hi), api.CellBursts)
		}
	}
	if min(above, below) < 500 {
		t.Error("hardly any of a kind:", above, below)
	}
}
