package house_test

import (
	"math"
	"slices"
	"strings"
	"testing"

	"inglenook/api"
	"inglenook/house"
	"inglenook/land"
)

// hello is what is sent to whoever comes: an offer of SGA, the question for NAWS, and who they are.
const hello = "\xff\xfb\x03\xff\xfd\x1f" + "Who are you?\r\n"

// wild has numbers that no seat and no kind of act has.
var wild = []int{math.MinInt64, math.MinInt64 + 1, -1 << 32, -4, -1, 6, 1 << 32, 1<<32 + 1, math.MaxInt64}

// party is a house that is tested.
type party struct {
	*testing.T
	*house.House
}

func open(t *testing.T) party { return party{t, house.New()} }

// want does an act whose reply has that code, and nothing else.
func (p party) want(a api.Act, code api.Errno) {
	p.Helper()
	if r := p.Do(a); r != (api.Reply{Code: code}) {
		p.Fatalf("%+v: %+v; wanted code %d", a, r, code)
	}
}

func (p party) come(seat int) {
	p.Helper()
	p.want(api.Act{Kind: api.ActCome, Seat: seat}, api.OK)
}

func (p party) feed(seat int, s string) {
	p.Helper()
	p.want(api.Act{Kind: api.ActBytes, Seat: seat, Bytes: s}, api.OK)
}

func (p party) leave(seat int) {
	p.Helper()
	p.want(api.Act{Kind: api.ActLeave, Seat: seat}, api.OK)
}

func (p party) pulse(draw int) {
	p.Helper()
	p.want(api.Act{Kind: api.ActPulse, N: draw}, api.OK)
}

// takes is what goes out of a seat.
func (p party) takes(seat, n int) string {
	p.Helper()
	r := p.Do(api.Act{Kind: api.ActTake, Seat: seat, N: n})
	if r.Code != api.OK {
		p.Fatalf("take of %d: %+v", seat, r)
	}
	return r.Out
}

// types has lines come from a seat, and a pulse for each.
func (p party) types(seat int, lines ...string) {
	p.Helper()
	for _, s := range lines {
		p.feed(seat, s+"\r\n")
		p.pulse(0)
	}
}

// enters has somebody come to a seat by a name, and takes what goes out of it.
func (p party) enters(seat int, name string) {
	p.Helper()
	p.come(seat)
	p.types(seat, name)
	p.takes(seat, math.MaxInt64)
	p.state(seat, api.Playing, p.being(seat))
}

// height has a seat's window be of so many lines.
func (p party) height(seat, n int) {
	p.Helper()
	p.feed(seat, "\xff\xfb\x1f\xff\xfa\x1f\x00\x50\x00"+string([]byte{byte(n)})+"\xff\xf0")
}

func (p party) being(seat int) int {
	_, b := p.State(seat)
	return b
}

func (p party) state(seat, state, being int) {
	p.Helper()
	if s, b := p.State(seat); s != state || b != being {
		p.Fatalf("seat %d: state %d, being %d; wanted %d, %d", seat, s, b, state, being)
	}
}

// told is what a seat was told in the last act, just these lines.
func (p party) told(seat int, lines ...string) {
	p.Helper()
	if l := p.Told(seat); !slices.Equal(l, lines) {
		p.Fatalf("seat %d was told %q; wanted %q", seat, l, lines)
	}
}

// kinds is the kinds of what happened in the last act, just these.
func (p party) kinds(list ...int) {
	p.Helper()
	var got []int
	for _, e := range p.Last() {
		got = append(got, e.Kind)
	}
	if !slices.Equal(got, list) {
		p.Fatalf("kinds %v happened; wanted %v", got, list)
	}
}

// gone is whether a seat is as if nobody had ever come.
func (p party) gone(seat int) {
	p.Helper()
	p.state(seat, api.Free, -1)
	g, l := p.Page(seat), p.Line(seat)
	if len(g.Wait) > 0 || g.Shown != 0 || g.Asking || g.Ring != "" || g.Cut {
		p.Fatalf("seat %d: page %+v", seat, g)
	}
	if len(l.Queue) > 0 || l.Now != "" || l.Long || l.Return {
		p.Fatalf("seat %d: line %+v", seat, l)
	}
	p.told(seat)
}

// P8.1

func TestNew(t *testing.T) {
	p := open(t)
	if p.Land() != land.New() || len(p.Last()) != 0 {
		t.Errorf("%+v, %v", p.Land(), p.Last())
	}
	for i := range api.Seats {
		p.gone(i)
	}
	if a, b := house.New(), house.New(); a == nil || a == b {
		t.Error("no house of its own")
	}
}

func TestNoSuchSeat(t *testing.T) {
	p := open(t)
	for i := range api.Seats {
		p.enters(i, string(rune('a'+i)))
	}
	p.types(0, "say boo")
	for _, i := range append(wild, api.Seats) {
		p.gone(i)
	}
}

func TestNilHouse(t *testing.T) {
	p := party{t, nil}
	for _, i := range append(wild, 0, 1, 2, 3, 4, 5) {
		p.gone(i)
		p.want(api.Act{Kind: i, Seat: i, N: i, Bytes: "x"}, api.ErrNone)
		p.want(api.Act{Kind: i}, api.ErrNone)
	}
	if p.Land() != (api.Land{}) || len(p.Last()) != 0 {
		t.Errorf("%+v, %v", p.Land(), p.Last())
	}
}

// A house that was not made by New is none that is promised anything, but that nothing panics in it.
func TestHouseOutOfNothing(t *testing.T) {
	p := party{t, &house.House{}}
	p.gone(0)
	p.come(0)
	p.types(0, "ann", "look", "quit")
	p.gone(0)
}

func TestLastAndToldOfRefusedActs(t *testing.T) {
	refused := []struct {
		act  api.Act
		code api.Errno
	}{
		{api.Act{}, api.ErrKind},
		{api.Act{Kind: api.ActBytes, Seat: 9}, api.ErrRange},
		{api.Act{Kind: api.ActCome, Seat: 0}, api.ErrNone},
		{api.Act{Kind: api.ActTake, Seat: 3}, api.ErrNone},
	}
	for _, r := range refused {
		p := open(t)
		p.enters(0, "ann")
		p.types(0, "say boo")
		p.told(0, "You say: boo")
		p.kinds(api.Said)
		before := p.Land()
		p.want(r.act, r.code)
		p.told(0)
		p.kinds()
		p.state(0, api.Playing, 2)
		if p.Land() != before {
			t.Errorf("%+v changed the land", r.act)
		}
	}
}

// An act in which nothing is told leaves nothing of the one ahead of it.
func TestToldIsOfOneAct(t *testing.T) {
	p := open(t)
	p.enters(0, "ann")
	p.types(0, "say boo")
	p.told(0, "You say: boo")
	p.pulse(0)
	p.told(0)
	p.kinds()
	p.types(0, "say boo")
	p.takes(0, 1)
	p.told(0)
	p.kinds()
}

func TestToldOfWhoLeft(t *testing.T) {
	p := open(t)
	p.enters(0, "ann")
	p.enters(1, "bob")
	p.feed(0, "say boo\r\n")
	p.feed(1, "quit\r\n")
	p.pulse(0)
	p.told(0, "You say: boo", "bob fades.")
	p.gone(1)
	p.kinds(api.Said, api.Faded)
}

// What is answered is the caller's: what they do to it does not come back.
func TestAnswersAreTheCallers(t *testing.T) {
	p := open(t)
	p.enters(0, "ann")
	p.height(0, 1)
	p.feed(0, "look\r\nsay one\r\nsay two\r\n")
	p.pulse(0)
	wait, queue := p.Page(0).Wait, p.Line(0).Queue
	told, last := p.Told(0), p.Last()
	if len(wait) < 3 || len(queue) != 2 || len(told) < 4 || len(last) < 4 {
		t.Fatalf("%q, %q, %q, %v", wait, queue, told, last)
	}
	keep := [][]string{slices.Clone(wait), slices.Clone(queue), slices.Clone(told)}
	row := slices.Clone(last)
	for _, l := range [][]string{wait, queue, told} {
		l = l[:cap(l)]
		for i := range l {
			l[i] = "changed"
		}
	}
	for i := range last {
		last[i] = api.Event{Kind: 99}
	}
	w := p.Land()
	w.Rooms[0].Name = "changed"
	for i, l := range [][]string{p.Page(0).Wait, p.Line(0).Queue, p.Told(0)} {
		if !slices.Equal(l, keep[i]) {
			t.Errorf("list %d: %q; wanted %q", i, l, keep[i])
		}
	}
	if !slices.Equal(p.Last(), row) || p.Land() == w {
		t.Errorf("%v; wanted %v", p.Last(), row)
	}
}

// What was answered stays as it was, whatever is done later.
func TestAnswersStay(t *testing.T) {
	p := open(t)
	p.enters(0, "ann")
	p.height(0, 1)
	p.feed(0, "look\r\nsay one\r\nsay two\r\n")
	p.pulse(0)
	wait, queue := p.Page(0).Wait, p.Line(0).Queue
	told, last := p.Told(0), p.Last()
	keep := [][]string{slices.Clone(wait), slices.Clone(queue), slices.Clone(told)}
	row := slices.Clone(last)
	for range 9 {
		p.types(0, "say more", "")
	}
	for i, l := range [][]string{wait, queue, told} {
		if !slices.Equal(l, keep[i]) {
			t.Errorf("list %d: %q; wanted %q", i, l, keep[i])
		}
	}
	if !slices.Equal(last, row) {
		t.Errorf("%v; wanted %v", last, row)
	}
}

// P8.2

func TestKinds(t *testing.T) {
	p := open(t)
	for _, k := range append(wild, 0) {
		// the kind is refused ahead of the seat
		p.want(api.Act{Kind: k, Seat: -1, N: 5, Bytes: "x"}, api.ErrKind)
		p.want(api.Act{Kind: k}, api.ErrKind)
	}
}

func TestSeats(t *testing.T) {
	p := open(t)
	p.come(1)
	for _, i := range append(wild, api.Seats) {
		for k := api.ActCome; k <= api.ActLeave; k++ {
			p.want(api.Act{Kind: k, Seat: i, N: 5, Bytes: "x"}, api.ErrRange)
		}
		p.want(api.Act{Kind: api.ActPulse, Seat: i}, api.OK)
	}
	for _, i := range []int{0, 2, 3} {
		for k := api.ActBytes; k <= api.ActLeave; k++ {
			p.want(api.Act{Kind: k, Seat: i, N: 5, Bytes: "x"}, api.ErrNone)
		}
		p.want(api.Act{Kind: api.ActPulse, Seat: i}, api.OK)
	}
	p.want(api.Act{Kind: api.ActCome, Seat: 1}, api.ErrNone)
	p.types(1, "ann")
	p.want(api.Act{Kind: api.ActCome, Seat: 1}, api.ErrNone)
	p.leave(1)
	p.want(api.Act{Kind: api.ActLeave, Seat: 1}, api.ErrNone)
	p.come(1)
}

// All acts count that were done, those too that were refused; what then is refused changes nothing.
func TestMaxActs(t *testing.T) {
	p := open(t)
	p.come(0)                        // 1
	p.types(0, "ann")                // 3
	p.want(api.Act{}, api.ErrKind)   // 4
	for i := 4; i < api.MaxActs-2; { // 398
		p.want(api.Act{Kind: api.ActBytes, Seat: 2}, api.ErrNone)
		i++
	}
	p.types(0, "say boo") // 400
	before, page, row := p.Land(), p.Page(0), p.Last()
	for k := range 8 {
		p.want(api.Act{Kind: k, Seat: 0, N: 100, Bytes: "say more\r\n"}, api.ErrFull)
		p.want(api.Act{Kind: k, Seat: 9}, api.ErrFull)
		p.told(0, "You say: boo")
		p.state(0, api.Playing, 2)
		if p.Land() != before || p.Page(0).Ring != page.Ring || len(row) != 1 || !slices.Equal(p.Last(), row) {
			t.Fatalf("kind %d: %+v, %v", k, p.Page(0), p.Last())
		}
	}
}

// P8.3

func TestCome(t *testing.T) {
	for i := range api.Seats {
		p := open(t)
		p.come(i)
		p.state(i, api.Naming, -1)
		p.told(i, "Who are you?")
		p.kinds()
		if g := p.Page(i); g.Ring != hello || g.Shown != 1 || len(g.Wait) != 0 || g.Asking || g.Cut {
			t.Errorf("%+v", g)
		}
		for j := range api.Seats {
			if j != i {
				p.gone(j)
			}
		}
		if p.Land() != land.New() {
			t.Error("somebody is about already")
		}
	}
}

// The codec has offered and asked: to what agrees nothing is answered.
func TestComeHasAsked(t *testing.T) {
	p := open(t)
	p.come(0)
	p.takes(0, 999)
	p.feed(0, "\xff\xfd\x03\xff\xfb\x1f")
	if s := p.takes(0, 999); s != "" {
		t.Errorf("%q", s)
	}
	p.feed(0, "\xff\xfe\x03\xff\xfc\x1f")
	if s := p.takes(0, 999); s != "\xff\xfc\x03\xff\xfe\x1f" {
		t.Errorf("%q", s)
	}
}

// Nothing is left for whoever comes to a seat of what was there.
func TestComeIsNew(t *testing.T) {
	p := open(t)
	p.enters(2, "ann")
	p.height(2, 1)
	p.types(2, "look")
	p.feed(2, "say one\r\nsay tw\xff\xfa")
	if g, l := p.Page(2), p.Line(2); !g.Asking || len(g.Wait) == 0 || len(l.Queue) != 1 || l.Now != "say tw" {
		t.Fatalf("%+v, %+v", g, l)
	}
	p.leave(2)
	p.gone(2)
	p.come(2)
	if s := p.takes(2, 999); s != hello {
		t.Errorf("%q", s)
	}
	p.types(2, "bob")
	p.told(2, "Be welcome.", "The hearth.", "Ways: north east up down*", "Here is lamp cloak mug box*.", "cat is here.")
	if g := p.Page(2); g.Asking || len(g.Wait) != 0 {
		t.Errorf("%+v", g)
	}
}

// P8.4

func TestBytes(t *testing.T) {
	p := open(t)
	p.come(0)
	p.takes(0, 999)
	p.feed(0, "a\xff\xfd\x05n\xff\xffn\r\nbo")
	if s := p.takes(0, 999); s != "\xff\xfc\x05" {
		t.Errorf("%q", s)
	}
	if l := p.Line(0); !slices.Equal(l.Queue, []string{"ann"}) || l.Now != "bo" {
		t.Errorf("%+v", l)
	}
	p.state(0, api.Naming, -1)
	p.told(0)
	// a command that is cut in two
	p.feed(0, "b\xff")
	p.feed(0, "\xfd")
	p.feed(0, "\x06\r")
	if s := p.takes(0, 999); s != "\xff\xfc\x06" {
		t.Errorf("%q", s)
	}
	if l := p.Line(0); !slices.Equal(l.Queue, []string{"ann", "bob"}) || !l.Return {
		t.Errorf("%+v", l)
	}
	p.feed(0, "")
	p.feed(0, "\n")
	if l := p.Line(0); len(l.Queue) != 2 || l.Return {
		t.Errorf("%+v", l)
	}
}

func TestNotSoFast(t *testing.T) {
	p := open(t)
	p.enters(0, "ann")
	p.feed(0, strings.Repeat("say boo\r\n", api.MaxQueue))
	p.told(0)
	p.feed(0, "look\r\n")
	p.told(0, "Not so fast.")
	p.feed(0, strings.Repeat("look\r\n", 3))
	p.told(0, "Not so fast.")
	if s := p.takes(0, 999); s != "Not so fast.\r\nNot so fast.\r\n" {
		t.Errorf("%q", s)
	}
	if l := p.Line(0); len(l.Queue) != api.MaxQueue {
		t.Errorf("%+v", l)
	}
	for range api.MaxQueue {
		p.pulse(0)
		p.told(0, "You say: boo")
	}
	p.pulse(0)
	p.told(0)
}

func TestTake(t *testing.T) {
	p := open(t)
	p.come(3)
	for _, n := range []int{0, -1, math.MinInt64} {
		if s := p.takes(3, n); s != "" {
			t.Errorf("%d: %q", n, s)
		}
	}
	out := p.takes(3, 1) + p.takes(3, 7)
	if out != hello[:8] || p.Page(3).Ring != hello[8:] {
		t.Errorf("%q, %q", out, p.Page(3).Ring)
	}
	if s := p.takes(3, math.MaxInt64); s != hello[8:] {
		t.Errorf("%q", s)
	}
	if s := p.takes(3, math.MaxInt64); s != "" {
		t.Errorf("%q", s)
	}
}

func TestLeaveWhileNaming(t *testing.T) {
	p := open(t)
	p.enters(0, "ann")
	p.come(1)
	before := p.Land()
	p.leave(1)
	p.gone(1)
	p.told(0)
	p.kinds()
	if p.Land() != before {
		t.Errorf("%+v", p.Land())
	}
}

func TestLeaveWhilePlaying(t *testing.T) {
	p := open(t)
	p.enters(0, "ann")
	p.enters(1, "bob")
	p.types(1, "get mug", "hit ann")
	p.leave(1)
	p.gone(1)
	p.told(0, "bob fades.")
	p.kinds(api.Faded)
	w := p.Land()
	if w.Beings[3] != (api.Being{}) || w.Beings[2].Foe != 0 {
		t.Errorf("%+v", w.Beings)
	}
	if mug := w.Things[6]; mug.Where != api.InRoom || mug.At != 0 {
		t.Errorf("%+v", mug)
	}
	// the being is free again
	p.come(3)
	p.types(3, "bob")
	p.state(3, api.Playing, 3)
}

// P8.8

func TestRun(t *testing.T) {
	acts := []api.Act{
		{},
		{Kind: api.ActCome, Seat: 2},
		{Kind: api.ActCome, Seat: 2},
		{Kind: api.ActTake, Seat: 2, N: 6},
		{Kind: api.ActBytes, Seat: 2, Bytes: "ann\r\n"},
		{Kind: api.ActPulse},
		{Kind: api.ActTake, Seat: 2, N: 27},
		{Kind: api.ActLeave, Seat: 7},
		{Kind: api.ActLeave, Seat: 2},
		{Kind: api.ActTake, Seat: 2, N: 99},
	}
	want := []api.Reply{
		{Code: api.ErrKind}, {}, {Code: api.ErrNone}, {Out: hello[:6]}, {}, {},
		{Out: "Who are you?\r\nBe welcome.\r\n"}, {Code: api.ErrRange}, {}, {Code: api.ErrNone},
	}
	given := slices.Clone(acts)
	for range 2 {
		if l, e := house.Run(acts); e != api.OK || !slices.Equal(l, want) {
			t.Errorf("%+v, %d", l, e)
		}
	}
	if !slices.Equal(acts, given) {
		t.Errorf("%+v", acts)
	}
}

func TestRunsBounds(t *testing.T) {
	for _, n := range []int{0, 1, api.MaxActs} {
		l, e := house.Run(make([]api.Act, n))
		if e != api.OK || len(l) != n {
			t.Errorf("%d: %v, %d", n, l, e)
		}
		for i, r := range l {
			if r != (api.Reply{Code: api.ErrKind}) {
				t.Errorf("%d of %d: %+v", i, n, r)
			}
		}
	}
	if l, e := house.Run(nil); e != api.OK || len(l) != 0 {
		t.Errorf("%v, %d", l, e)
	}
	for _, n := range []int{api.MaxActs + 1, 2 * api.MaxActs} {
		if l, e := house.Run(make([]api.Act, n)); e != api.ErrFull || len(l) != 0 {
			t.Errorf("%d: %v, %d", n, l, e)
		}
	}
}
