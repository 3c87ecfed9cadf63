package sense_test

import (
	"math"
	"strconv"
	"strings"
	"testing"

	"inglenook/api"
	"inglenook/land"
	"inglenook/sense"
)

// wild has numbers that no room, thing, being, place or kind has.
var wild = []int{math.MinInt64, math.MinInt64 + 1, -1 << 32, -10, -2, -1, 20, 21, 1 << 32, 1<<32 + 1, math.MaxInt64 - 1, math.MaxInt64}

var bools = []bool{false, true}

// bare is a land whose things are all plain, in room 5, and whose beings are all here, not keen, in room 2, that is not dark, as no room is.
func bare() api.Land {
	w := land.New()
	for i := range w.Rooms {
		w.Rooms[i].Dark = false
	}
	for i := range w.Things {
		w.Things[i] = api.Thing{Name: "mug", Where: api.InRoom, At: 5}
	}
	for b := range w.Beings {
		w.Beings[b] = api.Being{Name: string(rune('a' + b)), Here: true, Room: 2, Health: 9}
	}
	return w
}

// night is a bare land in which each room is dark.
func night() api.Land {
	w := bare()
	for i := range w.Rooms {
		w.Rooms[i].Dark = true
	}
	return w
}

// brightIn sees that of all rooms just that one is bright (-1: none is).
func brightIn(t *testing.T, what string, w api.Land, room int) {
	t.Helper()
	for r := -3; r < api.Rooms+3; r++ {
		if got := sense.Bright(w, r); got != (r == room && room >= 0) {
			t.Errorf("%s: Bright(%d) = %v", what, r, got)
		}
	}
	for _, r := range wild {
		if sense.Bright(w, r) {
			t.Errorf("%s: there is light in room %d", what, r)
		}
	}
}

// P6.1: a room that is not dark is bright, whatever is in it.
func TestBrightByItself(t *testing.T) {
	w := land.New()
	for r, want := range []bool{true, true, false, false, false, true} {
		if sense.Bright(w, r) != want {
			t.Errorf("room %d as it begins: bright is not %v", r, want)
		}
	}
	brightIn(t, "night", night(), -1)
	for r := range api.Rooms {
		w := night()
		w.Rooms[r].Dark = false
		brightIn(t, "one room is not dark", w, r)
	}
	if w := (api.Land{}); !sense.Bright(w, 0) || !sense.Bright(w, 5) || sense.Bright(w, 6) || sense.Bright(w, -1) {
		t.Error("a land of nothing has six rooms that are not dark")
	}
}

// P6.1: a lamp that is On, and nothing else, gives light to the room that it is in.
func TestBrightByThings(t *testing.T) {
	for i := range api.Things {
		for kind := -1; kind < 5; kind++ {
			for _, on := range bools {
				for room := range api.Rooms {
					w := night()
					w.Things[i] = api.Thing{Kind: kind, Where: api.InRoom, At: room, On: on}
					want := -1
					if kind == api.Lamp && on {
						want = room
					}
					brightIn(t, "thing "+strconv.Itoa(i)+" of kind "+strconv.Itoa(kind), w, want)
				}
			}
		}
	}
}

// P6.1: who has the lamp brings it along, also a being that is not about; where there is no such being or room, there is no light.
func TestBrightByBeings(t *testing.T) {
	for b := range api.Beings {
		for _, about := range bools {
			w := night()
			w.Things[3] = api.Thing{Kind: api.Lamp, Where: api.OnBeing, At: b, On: true}
			w.Beings[b].Here = about
			for room := range api.Rooms {
				w.Beings[b].Room = room
				brightIn(t, "a lamp on being "+strconv.Itoa(b), w, room)
			}
			for _, room := range wild {
				w.Beings[b].Room = room
				brightIn(t, "a being that is nowhere", w, -1)
			}
		}
	}
	for _, n := range append([]int{-1, 9, 10}, wild...) {
		for _, where := range []int{api.InRoom, api.OnBeing, api.InBox} {
			w := night()
			w.Things[3] = api.Thing{Kind: api.Lamp, Where: where, At: n, On: true}
			brightIn(t, "a lamp that is nowhere", w, -1)
		}
		w := night()
		w.Things[3] = api.Thing{Kind: api.Lamp, Where: n, At: 2, On: true}
		brightIn(t, "a lamp of no place", w, -1)
	}
	for n := api.Rooms; n < api.Things; n++ {
		w := night()
		w.Things[3] = api.Thing{Kind: api.Lamp, Where: api.InRoom, At: n, On: true}
		brightIn(t, "a lamp in no room", w, -1)
		w.Things[3].Where = api.OnBeing
		brightIn(t, "a lamp on nobody", w, -1)
	}
}

// P6.1: all boxes about a lamp must be On, be they in a room or on a being.
func TestBrightOutOfBoxes(t *testing.T) {
	for open := range 1 << 4 {
		for _, carried := range bools {
			w := night()
			w.Things[0] = api.Thing{Kind: api.Lamp, Where: api.InBox, At: 8, On: true}
			for n, i := range []int{8, 5, 1, 7} {
				next := []int{5, 1, 7, 0}[n]
				w.Things[i] = api.Thing{Kind: api.Box, Where: api.InBox, At: next, On: open>>n&1 != 0}
			}
			w.Things[7].Where, w.Things[7].At = api.InRoom, 4
			if carried {
				w.Things[7].Where, w.Things[7].At = api.OnBeing, 5
				w.Beings[5].Room = 4
			}
			want := -1
			if open == 15 {
				want = 4
			}
			brightIn(t, "boxes "+strconv.Itoa(open), w, want)
		}
	}
}

// P6.1: what is beside the way out of a lamp is nothing to it, and a lamp in a ring of boxes is nowhere.
func TestBrightBesideBoxes(t *testing.T) {
	w := night()
	w.Things[0] = api.Thing{Kind: api.Lamp, Where: api.InRoom, At: 3, On: true}
	w.Things[1] = api.Thing{Kind: api.Box, Where: api.InRoom, At: 3}
	w.Things[2] = api.Thing{Kind: api.Lamp, Where: api.InBox, At: 1, On: true}
	brightIn(t, "a lamp beside a shut box", w, 3)
	w.Things[0].On = false
	brightIn(t, "a lamp in a shut box", w, -1)
	w.Things[1] = api.Thing{Kind: api.Box, Where: api.InBox, At: 4, On: true}
	w.Things[4] = api.Thing{Kind: api.Box, Where: api.InBox, At: 1, On: true}
	brightIn(t, "a lamp in a ring", w, -1)
	w.Things[2].At = 2
	brightIn(t, "a lamp in itself", w, -1)
	w.Things[8] = api.Thing{Kind: api.Lamp, Where: api.OnBeing, At: 0, On: true}
	brightIn(t, "two lamps, of which one is somewhere", w, 2)
}

// P6.1: a cloak, On, on the being, and nothing else hides it.
func TestHidden(t *testing.T) {
	for i := range api.Things {
		for kind := -1; kind < 5; kind++ {
			for where := -1; where < 4; where++ {
				for at := range api.Beings {
					for _, on := range bools {
						w := bare()
						w.Things[i] = api.Thing{Kind: kind, Where: where, At: at, On: on}
						for b := range api.Beings {
							want := kind == api.Cloak && where == api.OnBeing && on && at == b
							if sense.Hidden(w, b) != want {
								t.Fatalf("thing %d %+v: being %d hidden is not %v", i, w.Things[i], b, want)
							}
						}
					}
				}
			}
		}
	}
}

// P6.1: a cloak that is off, ahead of one that is On; who is not about, and nobody.
func TestHiddenAmongMore(t *testing.T) {
	w := bare()
	w.Things[1] = api.Thing{Kind: api.Cloak, Where: api.OnBeing, At: 4}
	w.Things[2] = api.Thing{Kind: api.Lamp, Where: api.OnBeing, At: 4, On: true}
	if sense.Hidden(w, 4) {
		t.Error("hidden by a lamp and a cloak that is off")
	}
	w.Things[6] = api.Thing{Kind: api.Cloak, Where: api.OnBeing, At: 4, On: true}
	if !sense.Hidden(w, 4) {
		t.Error("not hidden by the second cloak")
	}
	w.Things[3] = api.Thing{Kind: api.Box, Where: api.OnBeing, At: 5, On: true}
	w.Things[6] = api.Thing{Kind: api.Cloak, Where: api.InBox, At: 3, On: true}
	if sense.Hidden(w, 4) || sense.Hidden(w, 5) || sense.Hidden(w, 3) {
		t.Error("hidden by a cloak in a box")
	}
	w.Things[6] = api.Thing{Kind: api.Cloak, Where: api.OnBeing, At: 4, On: true}
	w.Beings[4].Here = false
	if !sense.Hidden(w, 4) {
		t.Error("whether it is about is not asked")
	}
	for _, b := range wild {
		if sense.Hidden(w, b) {
			t.Errorf("nobody, %d, is hidden", b)
		}
	}
}

// P6.2: two beings, in all ways that they can be.
func TestSees(t *testing.T) {
	for bits := range 1 << 10 {
		is := func(n int) bool { return bits>>n&1 != 0 }
		w := night()
		a, b := 4, 1
		w.Beings[a] = api.Being{Here: is(0), Keen: is(1), Room: 3}
		w.Beings[b] = api.Being{Here: is(2), Keen: is(3), Room: 3}
		if is(4) {
			w.Beings[b].Room = 5
		}
		w.Rooms[3].Dark, w.Rooms[5].Dark = is(5), is(6)
		w.Things[0] = api.Thing{Kind: api.Cloak, Where: api.OnBeing, At: a, On: is(7)}
		w.Things[1] = api.Thing{Kind: api.Cloak, Where: api.OnBeing, At: b, On: is(8)}
		w.Things[2] = api.Thing{Kind: api.Lamp, Where: api.OnBeing, At: a, On: is(9)}
		light := !is(5) || is(9)
		together := is(0) && is(2) && !is(4) && light
		for _, c := range []struct {
			from, to int
			want     bool
		}{
			{a, a, is(0)},
			{b, b, is(2)},
			{a, b, together && (is(1) || !is(8))},
			{b, a, together && (is(3) || !is(7))},
		} {
			if sense.Sees(w, c.from, c.to) != c.want {
				t.Fatalf("%010b: %d sees %d is not %v", bits, c.from, c.to, c.want)
			}
		}
	}
}

// P6.2: nobody sees nobody, nor is seen; in a room that there is not, only itself.
func TestSeesNobody(t *testing.T) {
	w := bare()
	for _, n := range append([]int{api.Beings, api.Beings + 1}, wild...) {
		w.Things[0] = api.Thing{Kind: api.Lamp, Where: api.InRoom, At: n, On: true}
		for b := range api.Beings {
			if sense.Sees(w, n, b) || sense.Sees(w, b, n) {
				t.Errorf("being %d and %d", b, n)
			}
		}
		if sense.Sees(w, n, n) {
			t.Errorf("nobody, %d, sees itself", n)
		}
		w.Beings[0].Room, w.Beings[1].Room = n, n
		if sense.Sees(w, 0, 1) || !sense.Sees(w, 0, 0) || !sense.Sees(w, 1, 1) {
			t.Errorf("in room %d", n)
		}
		w.Beings[0].Room, w.Beings[1].Room = 2, 2
	}
}

// company is a land where, of being 3, being 0 is seen, 1 hidden, 2 not about, 4 in another room; 5 is hidden and keen.
func company() api.Land {
	w := bare()
	w.Beings[2].Here = false
	w.Beings[4].Room = 1
	w.Beings[5].Keen = true
	w.Things[1] = api.Thing{Kind: api.Cloak, Where: api.OnBeing, At: 1, On: true}
	w.Things[5] = api.Thing{Kind: api.Cloak, Where: api.OnBeing, At: 5, On: true}
	return w
}

// seen is whom beings 3 and 5 see in company.
var seen = map[int]map[int]bool{
	3: {0: true, 3: true},
	5: {0: true, 1: true, 3: true, 5: true},
}

// P6.3: each kind of event, of each actor and other, near and far, as two beings perceive it.
func TestPerceives(t *testing.T) {
	w := company()
	numbers := append([]int{0, 1, 2, 3, 4, 5, 6, 7}, wild...)
	kinds := append([]int{0, 1, 2, 3, 4, 5, 6, 7, 8, 9, 10, 11, 12, 13, 14, 15, 16, 17, 18, 19}, wild...)
	for _, kind := range kinds {
		for _, room := range append([]int{0, 1, 2, 3}, wild...) {
			for _, actor := range numbers {
				for _, other := range numbers {
					e := api.Event{Kind: kind, Room: room, Actor: actor, Other: other}
					for b, sees := range seen {
						if got, want := sense.Perceives(w, b, e), perceived(b, sees, e); got != want {
							t.Fatalf("%d perceives %+v as %d, not %d", b, e, got, want)
						}
					}
				}
			}
		}
	}
}

// perceived is what P6.3 says of a being in room 2 that is here.
func perceived(b int, sees map[int]bool, e api.Event) int {
	other := 0
	if e.Other >= 0 && e.Other <= 5 && !sees[e.Other] {
		other = 4
	}
	switch {
	case e.Actor == b:
		return 1 + other
	case e.Kind == 16 || e.Room != 2:
		return 0
	case sees[e.Actor]:
		return 1 + other
	case e.Kind == 7 || e.Kind == 14 || e.Kind == 15:
		return 3 + other
	}
	return 0
}

// P6.3: who is not here perceives nothing, its own doing neither; nobody likewise.
func TestPerceivesNothing(t *testing.T) {
	w := company()
	for _, b := range append([]int{2, api.Beings, api.Beings + 1}, wild...) {
		for kind := range 20 {
			for _, actor := range []int{b, 0, 2} {
				e := api.Event{Kind: kind, Room: 2, Actor: actor, Other: 0}
				if got := sense.Perceives(w, b, e); got != 0 {
					t.Errorf("%d perceives %+v as %d", b, e, got)
				}
			}
		}
	}
}

// P6.3: in the dark one is heard, and hits, whom nobody sees; itself each sees.
func TestPerceivesInTheDark(t *testing.T) {
	w := night()
	for _, c := range []struct {
		kind, b, actor, other, want int
	}{
		{api.Said, 0, 1, -1, 3},
		{api.Said, 1, 1, -1, 1},
		{api.Got, 0, 1, -1, 0},
		{api.Got, 1, 1, -1, 1},
		{api.Struck, 0, 1, 0, 3},
		{api.Struck, 1, 1, 0, 5},
		{api.Struck, 2, 1, 0, 7},
		{api.Struck, 1, 1, 1, 1},
		{api.Struck, 2, 1, 2, 3},
		{api.Died, 2, 1, -1, 3},
		{api.Gave, 1, 1, 0, 5},
		{api.Gave, 0, 1, 0, 0},
		{api.Told, 1, 1, -1, 1},
		{api.Told, 0, 1, -1, 0},
		{api.Struck, 2, 1, api.Beings, 3},
	} {
		e := api.Event{Kind: c.kind, Room: 2, Actor: c.actor, Other: c.other}
		if got := sense.Perceives(w, c.b, e); got != c.want {
			t.Errorf("%+v: %d", c, got)
		}
	}
}

// P6.3: All is what each perceives, whatever was there, and the event else as it was.
func TestAll(t *testing.T) {
	w := company()
	e := api.Event{Kind: api.Struck, Room: 2, Actor: 3, Other: 1, Dir: 4, N: -7, Who: "d", Whom: "b", Thing: "mug", Text: "x", By: [6]int{9, 9, 9, 9, 9, 9}}
	got := sense.All(w, e)
	want := e
	want.By = [6]int{0: 5, 1: 1, 3: 5, 5: 1}
	if got != want {
		t.Errorf("%+v", got)
	}
	if e.By != [6]int{9, 9, 9, 9, 9, 9} {
		t.Error("what was handed in is changed")
	}
	e.Actor, e.Other = 5, 0
	want = e
	want.By = [6]int{0: 3, 1: 3, 3: 3, 5: 1}
	if got := sense.All(w, e); got != want {
		t.Errorf("of one who is hidden: %+v", got)
	}
	for _, n := range wild {
		e := api.Event{Kind: n, Room: n, Actor: n, Other: n, Dir: n, N: n, By: [6]int{n, n, n, n, n, n}}
		want := api.Event{Kind: n, Room: n, Actor: n, Other: n, Dir: n, N: n}
		if got := sense.All(w, e); got != want {
			t.Errorf("%d: %+v", n, got)
		}
		if got := sense.All(api.Land{}, e); got != want {
			t.Errorf("%d, in a land of nothing: %+v", n, got)
		}
	}
}

// table is P6.4's, its marks between braces.
const table = `Left|You go {D}.|{A} goes {D}.
Came||{A} comes from {D}.
Got|You get the {T}.|{A} gets a {T}.
Dropped|You drop the {T}.|{A} drops a {T}.
Stowed|You put the {T} into the {X}.|{A} puts a {T} into a {X}.
Gave|You give the {T} to {O}.|{A} gives a {T} to {O}.
Said|You say: {X}|{A} says: {X}
Opened|You open the {T}.|{A} opens a {T}.
Closed|You close the {T}.|{A} closes a {T}.
Lit|You light the {T}.|{A} lights a {T}.
Doused|You douse the {T}.|{A} douses a {T}.
Wore|You put on the {T}.|{A} puts on a {T}.
Doffed|You take off the {T}.|{A} takes off a {T}.
Struck|You hit {O} for {N}.|{A} hits {O} for {N}.
Died|You die.|{A} dies.
Told|{X}|
Arrived|Be welcome.|{A} arrives.
Faded||{A} fades.`

// rows is the table by the kinds' numbers.
func rows() map[int][2]string {
	all := map[int][2]string{}
	for i, row := range strings.Split(table, "\n") {
		cells := strings.Split(row, "|")
		all[i+1] = [2]string{cells[1], cells[2]}
	}
	return all
}

// line is what P6.4 says of a form.
func line(form string, e api.Event, b int) string {
	who, whom := e.Who, e.Whom
	by := uint64(e.By[b])
	if by>>1%2 == 1 {
		who = "someone"
	}
	if by>>2%2 == 1 {
		whom = "someone"
	}
	if b == e.Other {
		whom = "you"
	}
	way := map[int]string{0: "north", 1: "east", 2: "up", 3: "south", 4: "west", 5: "down"}[e.Dir]
	return strings.NewReplacer("{A}", who, "{O}", whom, "{T}", e.Thing, "{D}", way, "{X}", e.Text, "{N}", strconv.Itoa(e.N)).Replace(form)
}

// check sees that a being hears of an event as the table says.
func check(t *testing.T, all map[int][2]string, e api.Event, b int) {
	t.Helper()
	cell := 1
	if b == e.Actor {
		cell = 0
	}
	form := all[e.Kind][cell]
	heard := uint64(e.By[b])%2 == 1
	want, ok := "", form != "" && heard
	if ok {
		want = line(form, e, b)
	}
	if got, is := sense.Tell(e, b); got != want || is != ok {
		t.Fatalf("%d hears of %+v: %q, %v, not %q, %v", b, e, got, is, want, ok)
	}
}

// P6.4: each kind, for the actor, the other one, and those by.
func TestTell(t *testing.T) {
	e := api.Event{Actor: 2, Other: 3, Dir: 4, N: 3, Who: "ann", Whom: "bob", Thing: "mug", Text: "box", By: [6]int{1, 7, 1, 1, 3, 5}}
	for kind, want := range map[int][6]string{
		api.Left:    {"ann goes west.", "someone goes west.", "You go west.", "ann goes west.", "someone goes west.", "ann goes west."},
		api.Came:    {"ann comes from west.", "someone comes from west.", "", "ann comes from west.", "someone comes from west.", "ann comes from west."},
		api.Got:     {"ann gets a mug.", "someone gets a mug.", "You get the mug.", "ann gets a mug.", "someone gets a mug.", "ann gets a mug."},
		api.Dropped: {"ann drops a mug.", "someone drops a mug.", "You drop the mug.", "ann drops a mug.", "someone drops a mug.", "ann drops a mug."},
		api.Stowed:  {"ann puts a mug into a box.", "someone puts a mug into a box.", "You put the mug into the box.", "ann puts a mug into a box.", "someone puts a mug into a box.", "ann puts a mug into a box."},
		api.Gave:    {"ann gives a mug to bob.", "someone gives a mug to someone.", "You give the mug to bob.", "ann gives a mug to you.", "someone gives a mug to bob.", "ann gives a mug to someone."},
		api.Said:    {"ann says: box", "someone says: box", "You say: box", "ann says: box", "someone says: box", "ann says: box"},
		api.Opened:  {"ann opens a mug.", "someone opens a mug.", "You open the mug.", "ann opens a mug.", "someone opens a mug.", "ann opens a mug."},
		api.Closed:  {"ann closes a mug.", "someone closes a mug.", "You close the mug.", "ann closes a mug.", "someone closes a mug.", "ann closes a mug."},
		api.Lit:     {"ann lights a mug.", "someone lights a mug.", "You light the mug.", "ann lights a mug.", "someone lights a mug.", "ann lights a mug."},
		api.Doused:  {"ann douses a mug.", "someone douses a mug.", "You douse the mug.", "ann douses a mug.", "someone douses a mug.", "ann douses a mug."},
		api.Wore:    {"ann puts on a mug.", "someone puts on a mug.", "You put on the mug.", "ann puts on a mug.", "someone puts on a mug.", "ann puts on a mug."},
		api.Doffed:  {"ann takes off a mug.", "someone takes off a mug.", "You take off the mug.", "ann takes off a mug.", "someone takes off a mug.", "ann takes off a mug."},
		api.Struck:  {"ann hits bob for 3.", "someone hits someone for 3.", "You hit bob for 3.", "ann hits you for 3.", "someone hits bob for 3.", "ann hits someone for 3."},
		api.Died:    {"ann dies.", "someone dies.", "You die.", "ann dies.", "someone dies.", "ann dies."},
		api.Told:    {"", "", "box", "", "", ""},
		api.Arrived: {"ann arrives.", "someone arrives.", "Be welcome.", "ann arrives.", "someone arrives.", "ann arrives."},
		api.Faded:   {"ann fades.", "someone fades.", "", "ann fades.", "someone fades.", "ann fades."},
	} {
		e.Kind = kind
		for b, s := range want {
			if got, ok := sense.Tell(e, b); got != s || ok != (s != "") {
				t.Errorf("kind %d, being %d: %q, %v, not %q", kind, b, got, ok, s)
			}
		}
	}
}

// P6.4: each kind, each way to perceive it, whoever is the actor and the other one; more bits say nothing.
func TestTellEach(t *testing.T) {
	all := rows()
	numbers := append([]int{0, 1, 2, 3, 4, 5, 6}, wild...)
	ways := append([]int{0, 1, 2, 3, 4, 5, 6, 7, 8, 9, 11, 13, 15, -3, -5, -7, -8}, wild...)
	for kind := -1; kind < 22; kind++ {
		for _, actor := range numbers {
			for _, other := range numbers {
				for _, by := range ways {
					for b := range api.Beings {
						e := api.Event{Kind: kind, Room: 1, Actor: actor, Other: other, Dir: 2, N: 2, Who: "ann", Whom: "bob", Thing: "key", Text: "chest"}
						e.By[b] = by
						check(t, all, e, b)
					}
				}
			}
		}
	}
}

// P6.4: there is no such being, or no such kind.
func TestTellNothing(t *testing.T) {
	for _, n := range append([]int{api.Beings, api.Beings + 1}, wild...) {
		e := api.Event{Kind: api.Said, Actor: n, Other: n, Who: "ann", Text: "x", By: [6]int{1, 1, 1, 1, 1, 1}}
		if s, ok := sense.Tell(e, n); s != "" || ok {
			t.Errorf("nobody, %d, hears %q", n, s)
		}
	}
	for _, kind := range append([]int{0, 19}, wild...) {
		for _, actor := range []int{0, 1} {
			e := api.Event{Kind: kind, Actor: actor, Who: "ann", Text: "x", By: [6]int{1, 1, 1, 1, 1, 1}}
			if s, ok := sense.Tell(e, 0); s != "" || ok {
				t.Errorf("kind %d: %q", kind, s)
			}
		}
	}
	if s, ok := sense.Tell(api.Event{}, 0); s != "" || ok {
		t.Errorf("of nothing: %q", s)
	}
}

// P6.4: what is filled in stays as it is, also if it looks like a mark; directions and numbers are any.
func TestTellFillsInOnce(t *testing.T) {
	all := rows()
	texts := []string{"", "A", "ODTXN", "A gives a T to O.", "You say: X", "someone", "you", "{A}{O}", "$1 %d \\ \x00\xff\r\n", "Ä\u2003x"}
	for kind := 1; kind < 19; kind++ {
		for i, who := range texts {
			for j, thing := range texts {
				for b := range 3 {
					e := api.Event{Kind: kind, Actor: 0, Other: 1, Dir: i - 2, N: j - 4, Who: who, Whom: texts[(i+j)%len(texts)], Thing: thing, Text: texts[(i+2*j+1)%len(texts)], By: [6]int{1, 1, 1}}
					check(t, all, e, b)
				}
			}
		}
	}
	for _, n := range append([]int{0, 9, 10, 100, -9}, wild...) {
		e := api.Event{Kind: api.Struck, Actor: 0, Other: 1, N: n, Whom: "rat", By: [6]int{1}}
		if s, ok := sense.Tell(e, 0); s != "You hit rat for "+strconv.Itoa(n)+"." || !ok {
			t.Errorf("%d: %q", n, s)
		}
		e = api.Event{Kind: api.Came, Actor: 1, Dir: n, Who: "rat", By: [6]int{1}}
		if s, ok := sense.Tell(e, 0); n != 0 && (s != "rat comes from ." || !ok) {
			t.Errorf("direction %d: %q", n, s)
		}
	}
}

// P6.4: an empty text is a line, too.
func TestTellEmpty(t *testing.T) {
	if s, ok := sense.Tell(api.Event{Kind: api.Told, By: [6]int{1}}, 0); s != "" || !ok {
		t.Errorf("%q, %v", s, ok)
	}
}

// Long names and texts are told as fast as short ones, byte by byte.
func TestTellLong(t *testing.T) {
	long := strings.Repeat("AOTDXN you ", 1<<20)
	e := api.Event{Kind: api.Gave, Actor: 0, Other: 2, Who: long, Whom: long, Thing: long, By: [6]int{1, 1}}
	if s, ok := sense.Tell(e, 1); s != long+" gives a "+long+" to "+long+"." || !ok {
		t.Error("a long gift")
	}
}
