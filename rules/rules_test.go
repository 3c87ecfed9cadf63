package rules_test

import (
	"math"
	"math/rand"
	"slices"
	"strings"
	"testing"

	"inglenook/api"
	"inglenook/land"
	"inglenook/rules"
	"inglenook/sense"
	"inglenook/words"
)

// wild has numbers that no room, thing, being, verb or place has.
var wild = []int{math.MinInt64, math.MinInt64 + 1, -1 << 32, -10, -2, -1, 21, 22, 1 << 32, 1<<32 + 1, math.MaxInt64 - 1, math.MaxInt64}

var bools = []bool{false, true}

// bare is a land with light everywhere, whose things are all mugs in room 5, and whose beings, a to f, are all in room 2.
func bare() api.Land {
	w := land.New()
	for i := range w.Rooms {
		w.Rooms[i].Dark = false
	}
	for i := range w.Things {
		w.Things[i] = api.Thing{Name: "mug", Where: api.InRoom, At: 5}
	}
	for b := range w.Beings {
		w.Beings[b] = api.Being{Name: string(rune('a' + b)), Here: true, Room: 2, Health: 9}
	}
	return w
}

// alone is an event of a being with nobody else, perceived as the land is.
func alone(w api.Land, b int, e api.Event) api.Event {
	e.Actor, e.Who, e.Room = b, w.Beings[b].Name, w.Beings[b].Room
	e.Other, e.Whom = -1, ""
	return sense.All(w, e)
}

// both is an event of a being with another one, perceived as the land is.
func both(w api.Land, b, other int, e api.Event) api.Event {
	e.Actor, e.Who, e.Room = b, w.Beings[b].Name, w.Beings[b].Room
	e.Other, e.Whom = other, w.Beings[other].Name
	return sense.All(w, e)
}

// told is a line to a being, as the land is.
func told(w api.Land, b int, text string) api.Event {
	return alone(w, b, api.Event{Kind: api.Told, Text: text})
}

// looks is what happens when a being looks, put together out of the chapter's words.
func looks(w api.Land, b int) []api.Event {
	var row []api.Event
	for _, line := range view(w, b) {
		row = append(row, told(w, b, line))
	}
	return row
}

// view is the lines of which a being is told that looks.
func view(w api.Land, b int) []string {
	at := w.Beings[b].Room
	if !sense.Bright(w, at) {
		return []string{"It is dark."}
	}
	ways := "Ways:"
	for d, name := range []string{"north", "east", "up", "south", "west", "down"} {
		if w.Rooms[at].Exits[d] != 0 {
			ways += " " + name
			if w.Rooms[at].Shut[d] {
				ways += "*"
			}
		}
	}
	lines := []string{"The " + w.Rooms[at].Name + ".", ways}
	if list := land.Has(w, api.InRoom, at); len(list) > 0 {
		lines = append(lines, "Here is"+listed(w, list))
	}
	for other, being := range w.Beings {
		if other != b && sense.Sees(w, b, other) {
			lines = append(lines, being.Name+" is here.")
		}
	}
	return lines
}

// listed is a list of things by the chapter's words.
func listed(w api.Land, list []int) string {
	if len(list) == 0 {
		return " nothing."
	}
	text := ""
	for _, i := range list {
		text += " " + w.Things[i].Name
		if w.Things[i].On {
			text += "*"
		}
	}
	return text + "."
}

// does sees that an order goes well, and what comes of it.
func does(t *testing.T, what string, w api.Land, b int, o api.Order, after api.Land, want ...api.Event) {
	t.Helper()
	got, row, code := rules.Do(w, b, o)
	if code != api.OK {
		t.Errorf("%s: %+v: %d", what, o, code)
	}
	same(t, what, got, after, row, want)
}

// same sees that a land and what happened are those that are wanted.
func same(t *testing.T, what string, got, after api.Land, row, want []api.Event) {
	t.Helper()
	if !slices.Equal(row, want) {
		t.Errorf("%s: there happened\n%+v, wanted\n%+v", what, row, want)
	}
	if got != after {
		t.Errorf("%s: the land is\n%+v, wanted\n%+v", what, got, after)
	}
	if !land.Good(got) {
		t.Errorf("%s: the land is not good behind it", what)
	}
}

// refuses sees that a being is told something, and nothing else comes of its order.
func refuses(t *testing.T, what string, w api.Land, b int, o api.Order, text string) {
	t.Helper()
	does(t, what, w, b, o, w, told(w, b, text))
}

// spoilt is lands that are not good, by what is wrong in them.
func spoilt() map[string]api.Land {
	list := map[string]api.Land{}
	w := land.New()
	w.Rooms[1].Exits[0] = 7
	list["an exit to no room"] = w
	w = land.New()
	w.Rooms[1].Shut[0] = true
	list["a door without an exit"] = w
	w = land.New()
	w.Beings[0].Health = 0
	list["somebody without health"] = w
	w = land.New()
	w.Beings[5].Foe = 1
	list["nobody's foe"] = w
	w = land.New()
	w.Things[0].Where, w.Things[0].At = api.InBox, 2
	list["a lamp in a cloak"] = w
	w = land.New()
	w.Things[7].Where, w.Things[7].At = api.InBox, 7
	list["a box in itself"] = w
	return list
}

// All but Named say ErrRange first, and answer the land as it was.
func TestLandNotGood(t *testing.T) {
	for what, w := range spoilt() {
		for _, b := range append([]int{0, 1, 5, 6}, wild...) {
			for _, v := range append([]int{0, 6, 20, 21}, wild...) {
				if got, row, code := rules.Do(w, b, api.Order{Verb: v}); got != w || len(row) != 0 || code != api.ErrRange {
					t.Errorf("%s: Do(%d, %d): %+v, %d", what, b, v, row, code)
				}
			}
		}
		for _, name := range []string{"ann", "", "cat", "Ann", "someone"} {
			if got, b, row, code := rules.Enter(w, name); got != w || b != 0 || len(row) != 0 || code != api.ErrRange {
				t.Errorf("%s: Enter(%q): %d, %+v, %d", what, name, b, row, code)
			}
		}
		for _, draw := range append([]int{0, 1}, wild...) {
			if got, row, code := rules.Round(w, draw); got != w || len(row) != 0 || code != api.ErrRange {
				t.Errorf("%s: Round(%d): %+v, %d", what, draw, row, code)
			}
		}
	}
}

// P7.1: ErrNone comes ahead of ErrKind; the land is as it was.
func TestDoErrors(t *testing.T) {
	w := land.New()
	for _, b := range append([]int{2, 3, 4, 5, 6, 7}, wild...) {
		for _, v := range append([]int{0, 6, 7, 20, 21}, wild...) {
			if got, row, code := rules.Do(w, b, api.Order{Verb: v, Nth: 1}); got != w || len(row) != 0 || code != api.ErrNone {
				t.Errorf("Do(%d, %d): %+v, %d", b, v, row, code)
			}
		}
	}
	for b := range 2 {
		for _, v := range wild {
			if got, row, code := rules.Do(w, b, api.Order{Verb: v, Nth: 1}); got != w || len(row) != 0 || code != api.ErrKind {
				t.Errorf("Do(%d, %d): %+v, %d", b, v, row, code)
			}
		}
		for v := range 21 {
			if _, row, code := rules.Do(w, b, api.Order{Verb: v, Nth: 1, Name: "x"}); len(row) == 0 || code != api.OK {
				t.Errorf("Do(%d, %d): %+v, %d", b, v, row, code)
			}
		}
	}
	for b := range api.Beings {
		w := bare()
		if _, row, code := rules.Do(w, b, api.Order{Verb: api.Look}); len(row) == 0 || code != api.OK {
			t.Errorf("being %d: %d", b, code)
		}
		w.Beings[b] = api.Being{Name: "x"}
		if _, _, code := rules.Do(w, b, api.Order{Verb: api.Look}); code != api.ErrNone {
			t.Errorf("being %d is not here: %d", b, code)
		}
	}
}

// P7.9: a name is 1 to MaxName letters.
func TestNamed(t *testing.T) {
	for n := range 20 {
		if got := rules.Named(strings.Repeat("q", n)); got != (n >= 1 && n <= 8) {
			t.Errorf("%d letters: %v", n, got)
		}
	}
	for c := range 256 {
		want := c >= 'a' && c <= 'z'
		for _, s := range []string{string([]byte{byte(c)}), string([]byte{byte(c), 'b', 'o', 'b'}), string([]byte{'b', byte(c), 'b'}), string([]byte{'b', 'o', byte(c)}), string([]byte{'a', 'b', 'c', 'd', 'e', 'f', 'g', byte(c)})} {
			if rules.Named(s) != want {
				t.Errorf("%q: not %v", s, want)
			}
		}
	}
	for s, want := range map[string]bool{
		"someone": false, "you": false, "someones": true, "someon": true, "omeone": true, "yo": true, "your": true, "me": true,
		"all": true, "cat": true, "north": true, "nobody": true, "You": false, "someone ": false, " ann": false, "ann ": false, "a nn": false,
		"é": false, "ann\x00": false, "2.rat": false,
	} {
		if rules.Named(s) != want {
			t.Errorf("%q: not %v", s, want)
		}
	}
}

// entered sees that a player enters as that being, and what comes of it.
func entered(t *testing.T, what string, w api.Land, name string, b int) api.Land {
	t.Helper()
	after := w
	after.Beings[b] = api.Being{Name: name, Here: true, Health: 10}
	got, n, row, code := rules.Enter(w, name)
	if n != b || code != api.OK {
		t.Errorf("%s: %q is being %d, %d", what, name, n, code)
	}
	same(t, what, got, after, row, append([]api.Event{alone(after, b, api.Event{Kind: api.Arrived})}, looks(after, b)...))
	return got
}

// P7.9: players are the beings from Mobiles on, the first one that is free; then there is no room.
func TestEnter(t *testing.T) {
	w := land.New()
	for i, name := range []string{"ann", "bob", "rats", "z"} {
		w = entered(t, "one by one", w, name, i+2)
	}
	for name, want := range map[string]api.Errno{"eve": api.ErrFull, "cat": api.ErrForm, "rat": api.ErrForm, "z": api.ErrForm, "": api.ErrForm, "you": api.ErrForm} {
		if got, b, row, code := rules.Enter(w, name); got != w || b != 0 || len(row) != 0 || code != want {
			t.Errorf("a full land: %q: %d, %+v, %d", name, b, row, code)
		}
	}
	for b := range api.Beings {
		w := bare()
		w.Beings[b] = api.Being{}
		if b >= api.Mobiles {
			entered(t, "one is free", w, "eve", b)
		} else if got, n, row, code := rules.Enter(w, "eve"); got != w || n != 0 || len(row) != 0 || code != api.ErrFull {
			t.Errorf("mobile %d is free: %d, %+v, %d", b, n, row, code)
		}
	}
}

// P7.9: nobody has the name of one who is about, and anybody that of one who is not.
func TestEnterNames(t *testing.T) {
	for b := range api.Beings - 1 {
		w := bare()
		w.Beings[5] = api.Being{}
		name := w.Beings[b].Name
		if got, n, row, code := rules.Enter(w, name); got != w || n != 0 || len(row) != 0 || code != api.ErrForm {
			t.Errorf("the name of being %d: %d, %+v, %d", b, n, row, code)
		}
		w.Beings[b] = api.Being{Name: name}
		want := b
		if b < api.Mobiles {
			want = 5
		}
		entered(t, "who is not about", w, name, want)
	}
	w := land.New()
	for _, name := range []string{"", "Ann", "ann ", "an.n", "abcdefghi", "someone", "you", "north1"} {
		if got, b, row, code := rules.Enter(w, name); got != w || b != 0 || len(row) != 0 || code != api.ErrForm {
			t.Errorf("%q: %d, %+v, %d", name, b, row, code)
		}
	}
}

// P7.9: nothing is left of who was that being ahead of it; whoever had it as a foe still has.
func TestEnterAnew(t *testing.T) {
	w := bare()
	w.Beings[3] = api.Being{Name: "old", Keen: true, Room: 4}
	w.Beings[0].Foe = 4
	entered(t, "left over", w, "new", 3)
	w.Rooms[0].Dark = true
	entered(t, "in the dark", w, "new", 3)
	w.Things[4] = api.Thing{Name: "lamp", Kind: api.Lamp, Where: api.OnBeing, At: 1, On: true}
	w.Beings[1].Room = 0
	entered(t, "by a lamp", w, "new", 3)
}

// The events say who did it and what else the chapter names, and nothing else; those of the land as it begins, in full.
func TestEventsInFull(t *testing.T) {
	w, ann, row, _ := rules.Enter(land.New(), "ann")
	line := func(text string) api.Event {
		return api.Event{Kind: api.Told, Actor: 2, Who: "ann", Other: -1, Text: text, By: [api.Beings]int{2: api.Heard}}
	}
	want := []api.Event{
		{Kind: api.Arrived, Actor: 2, Who: "ann", Other: -1, By: [api.Beings]int{0: api.Heard, 2: api.Heard}},
		line("The hearth."), line("Ways: north east up down*"), line("Here is lamp cloak mug box*."), line("cat is here."),
	}
	if ann != 2 || !slices.Equal(row, want) {
		t.Errorf("%d: %+v", ann, row)
	}
	w, row, _ = rules.Do(w, 2, api.Order{Verb: 0, Nth: 7, All: true, Name: "x", Second: "y", Text: "z"})
	want = []api.Event{
		{Kind: api.Left, Actor: 2, Who: "ann", Other: -1, Dir: 0, By: [api.Beings]int{0: api.Heard, 2: api.Heard}},
		{Kind: api.Came, Room: 1, Actor: 2, Who: "ann", Other: -1, Dir: 3, By: [api.Beings]int{2: api.Heard}},
		line("The yard."), line("Ways: south"), line("Here is coin."),
	}
	for i := range want[2:] {
		want[2+i].Room = 1
	}
	if !slices.Equal(row, want) {
		t.Errorf("%+v", row)
	}
	w, row, _ = rules.Do(w, 2, api.Order{Verb: api.Get, Nth: 1, Name: "coin", Text: "z"})
	want = []api.Event{{Kind: api.Got, Room: 1, Actor: 2, Who: "ann", Other: -1, Thing: "coin", By: [api.Beings]int{2: api.Heard}}}
	if !slices.Equal(row, want) || w.Things[5] != (api.Thing{Name: "coin", Where: api.OnBeing, At: 2}) {
		t.Errorf("%+v", row)
	}
}

// hears is what a being is told of what happened, line by line.
func hears(row []api.Event, b int) string {
	var lines []string
	for _, e := range row {
		if line, ok := sense.Tell(e, b); ok {
			lines = append(lines, line)
		}
	}
	return strings.Join(lines, "|")
}

// The examples of the whole: who wears a cloak is heard, and seen by the cat alone; a lamp is lit in the dark.
func TestExamples(t *testing.T) {
	w := land.New()
	for _, name := range []string{"ann", "bob"} {
		w, _, _, _ = rules.Enter(w, name)
	}
	for _, c := range []struct {
		b             int
		typed         string
		ann, bob, cat string
	}{
		{2, "get cloak", "You get the cloak.", "ann gets a cloak.", "ann gets a cloak."},
		{2, "wear cloak", "You put on the cloak.", "ann puts on a cloak.", "ann puts on a cloak."},
		{2, "say  Hello, Bob ", "You say: Hello, Bob", "someone says: Hello, Bob", "ann says: Hello, Bob"},
		{2, "get mug", "You get the mug.", "", "ann gets a mug."},
		{3, "give lamp ann", "", "There is nobody of that name.", ""},
		{2, "get lamp", "You get the lamp.", "", "ann gets a lamp."},
		{2, "give lamp to bob", "You give the lamp to bob.", "", "ann gives a lamp to bob."},
		{2, "doff cloak", "You take off the cloak.", "ann takes off a cloak.", "ann takes off a cloak."},
		{3, "east", "bob goes east.", "You go east.|It is dark.", "bob goes east."},
		{2, "east", "You go east.|It is dark.", "", "ann goes east."},
		{3, "look", "", "It is dark.", ""},
		{3, "light lamp", "bob lights a lamp.", "You light the lamp.", ""},
		{3, "look", "", "The pantry.|Ways: west|ann is here.", ""},
		{2, "hit bob", "You fight.", "", ""},
		{3, "douse lamp", "bob douses a lamp.", "You douse the lamp.", ""},
		{2, "hit bob", "There is nobody of that name.", "", ""},
		{3, "quit", "", "", ""},
		{2, "look", "It is dark.", "", ""},
	} {
		o, code := words.Parse(c.typed)
		if code != api.OK {
			t.Fatalf("%q: %d", c.typed, code)
		}
		var row []api.Event
		w, row, code = rules.Do(w, c.b, o)
		if code != api.OK || hears(row, 2) != c.ann || hears(row, 3) != c.bob || hears(row, 0) != c.cat {
			t.Errorf("%q: ann %q, bob %q, cat %q", c.typed, hears(row, 2), hears(row, 3), hears(row, 0))
		}
	}
}

// some is one of a list.
func some[T any](r *rand.Rand, list ...T) T { return list[r.Intn(len(list))] }

// Whatever is done, the land stays good and each answer is the same again; nothing is made, nor gone.
func TestLandStaysGood(t *testing.T) {
	for seed := range 60 {
		r := rand.New(rand.NewSource(int64(seed)))
		w := land.New()
		for step := range 400 {
			before := w
			var row, again []api.Event
			var code api.Errno
			switch k := r.Intn(20); {
			case k == 0:
				name := some(r, "ann", "bob", "eve", "rat", "all")
				w, _, row, code = rules.Enter(before, name)
				_, _, again, _ = rules.Enter(before, name)
			case k == 1:
				draw := some(r, 0, 1, 2, -1, math.MinInt64, math.MaxInt64)
				w, row, code = rules.Round(before, draw)
				_, again, _ = rules.Round(before, draw)
			default:
				o := api.Order{
					Verb: r.Intn(21), Nth: some(r, 1, 1, 1, 2, 0, -1), All: r.Intn(4) == 0,
					Name:   some(r, "", "lamp", "cloak", "box", "chest", "coin", "cat", "rat", "ann", "bob", "up", "down"),
					Second: some(r, "", "box", "chest", "2.coin", "all", "cat", "rat", "ann", "bob", "..", "1.box"),
					Text:   some(r, "", "hm"),
				}
				b := r.Intn(api.Beings)
				w, row, code = rules.Do(before, b, o)
				_, again, _ = rules.Do(before, b, o)
			}
			if !land.Good(w) || code != api.OK && (w != before || len(row) != 0) || !slices.Equal(row, again) {
				t.Fatalf("seed %d, step %d: %d, %+v", seed, step, code, row)
			}
			for i := range w.Things {
				if w.Things[i].Name != before.Things[i].Name || w.Things[i].Kind != before.Things[i].Kind {
					t.Fatalf("seed %d, step %d: thing %d is %+v", seed, step, i, w.Things[i])
				}
			}
			for i := range w.Rooms {
				if w.Rooms[i].Name != before.Rooms[i].Name || w.Rooms[i].Exits != before.Rooms[i].Exits || w.Rooms[i].Dark != before.Rooms[i].Dark {
					t.Fatalf("seed %d, step %d: room %d is %+v", seed, step, i, w.Rooms[i])
				}
			}
		}
	}
}

// What is answered is nobody else's: changing it changes no later answer.
func TestEventsAreNew(t *testing.T) {
	w := bare()
	_, first, _ := rules.Do(w, 2, api.Order{Verb: api.Look})
	want := slices.Clone(first)
	for i := range first {
		first[i] = api.Event{}
	}
	first = append(first[:0], api.Event{Text: "x"})
	if _, row, _ := rules.Do(w, 2, api.Order{Verb: api.Look}); !slices.Equal(row, want) {
		t.Errorf("%+v, wanted %+v (%+v)", row, want, first)
	}
}
