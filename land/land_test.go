package land_test

import (
	"math"
	"slices"
	"testing"

	"inglenook/api"
	"inglenook/land"
)

// wild has numbers that no room, thing, being or place has.
var wild = []int{math.MinInt64, math.MinInt64 + 1, -1 << 32, -10, -2, -1, 10, 11, 1 << 32, 1<<32 + 1, math.MaxInt64 - 1, math.MaxInt64}

// begins is the land of P4.1, written out.
func begins() api.Land {
	return api.Land{
		Rooms: [6]api.Room{
			{Name: "hearth", Exits: [6]int{2, 3, 4, 0, 0, 5}, Shut: [6]bool{false, false, false, false, false, true}},
			{Name: "yard", Exits: [6]int{0, 0, 0, 1, 0, 0}},
			{Name: "pantry", Dark: true, Exits: [6]int{0, 0, 0, 0, 1, 0}},
			{Name: "loft", Dark: true, Exits: [6]int{0, 6, 0, 0, 0, 1}},
			{Name: "cellar", Dark: true, Exits: [6]int{0, 0, 1, 0, 0, 0}, Shut: [6]bool{false, false, true, false, false, false}},
			{Name: "attic", Exits: [6]int{0, 0, 0, 0, 4, 0}},
		},
		Things: [9]api.Thing{
			{Name: "lamp", Kind: 1, Where: 0, At: 0},
			{Name: "lamp", Kind: 1, Where: 0, At: 3},
			{Name: "cloak", Kind: 2, Where: 0, At: 0},
			{Name: "chest", Kind: 3, Where: 0, At: 4},
			{Name: "coin", Kind: 0, Where: 2, At: 3},
			{Name: "coin", Kind: 0, Where: 0, At: 1},
			{Name: "mug", Kind: 0, Where: 0, At: 0},
			{Name: "box", Kind: 3, Where: 0, At: 0, On: true},
			{Name: "key", Kind: 0, Where: 1, At: 1},
		},
		Beings: [6]api.Being{
			{Name: "cat", Here: true, Keen: true, Room: 0, Health: 10},
			{Name: "rat", Here: true, Room: 4, Health: 3},
		},
	}
}

// boxes is a land of boxes alone, all of them On and in room 2.
func boxes() api.Land {
	w := land.New()
	for i := range w.Things {
		w.Things[i] = api.Thing{Name: "box", Kind: api.Box, Where: api.InRoom, At: 2, On: true}
	}
	return w
}

// chain is boxes, each but the last in the next.
func chain() api.Land {
	w := boxes()
	for i := range 8 {
		w.Things[i].Where, w.Things[i].At = api.InBox, i+1
	}
	return w
}

// P4.1

func TestNew(t *testing.T) {
	if w := land.New(); w != begins() {
		t.Errorf("New is\n%+v\nand not\n%+v", w, begins())
	}
	w := land.New()
	w.Rooms[0].Exits[0], w.Things[0].On, w.Beings[0].Health = 0, true, 1
	if land.New() != begins() {
		t.Error("New is another one, once the first was changed")
	}
	if !land.Good(land.New()) {
		t.Error("New is not good")
	}
}

func TestNewLeadsBack(t *testing.T) {
	w := land.New()
	ways := 0
	for i, r := range w.Rooms {
		for d, to := range r.Exits {
			if to == 0 {
				continue
			}
			ways++
			other, back := w.Rooms[to-1], land.Opposite(d)
			if other.Exits[back] != i+1 || other.Shut[back] != r.Shut[d] {
				t.Errorf("from room %d by %d and back: %+v", i, d, other)
			}
		}
	}
	if ways != 10 {
		t.Errorf("%d ways", ways)
	}
}

func TestOpposite(t *testing.T) {
	want := map[int]int{
		0: 3, 1: 4, 2: 5, 3: 0, 4: 1, 5: 2,
		-1: 3, -2: 3, -3: 3, -6: 3, -1 << 32: 3, math.MinInt64: 3, math.MinInt64 + 1: 3,
		6: 2, 7: 2, 8: 2, 11: 2, 12: 2, 1 << 32: 2, math.MaxInt64: 2, math.MaxInt64 - 3: 2,
	}
	for d, o := range want {
		if got := land.Opposite(d); got != o {
			t.Errorf("Opposite(%d) is %d, not %d", d, got, o)
		}
	}
}

// P4.2

// check is whether a New land that was changed so is good, just if it should be.
func check(t *testing.T, want bool, what string, change func(w *api.Land)) {
	t.Helper()
	w := land.New()
	change(&w)
	if got := land.Good(w); got != want {
		t.Errorf("%s: Good is %v: %+v", what, got, w)
	}
}

func TestGoodExits(t *testing.T) {
	for i := range api.Rooms {
		for d := range api.Directions {
			for to := 0; to <= api.Rooms; to++ {
				check(t, true, "an exit", func(w *api.Land) {
					w.Rooms[i].Exits[d], w.Rooms[i].Shut[d] = to, false
				})
				check(t, to != 0, "a shut exit", func(w *api.Land) {
					w.Rooms[i].Exits[d], w.Rooms[i].Shut[d] = to, true
				})
			}
			for _, to := range append([]int{7, 8, 9}, wild...) {
				for _, shut := range []bool{false, true} {
					check(t, false, "an exit to no room", func(w *api.Land) {
						w.Rooms[i].Exits[d], w.Rooms[i].Shut[d] = to, shut
					})
				}
			}
		}
	}
}

func TestGoodRoomsOtherwise(t *testing.T) {
	check(t, true, "no rooms to speak of", func(w *api.Land) { w.Rooms = [6]api.Room{} })
	check(t, true, "names and darkness", func(w *api.Land) {
		for i := range w.Rooms {
			w.Rooms[i].Name, w.Rooms[i].Dark = "\xff\x00", !w.Rooms[i].Dark
		}
	})
	check(t, true, "a way that does not lead back", func(w *api.Land) { w.Rooms[1].Exits[3] = 0 })
	check(t, true, "a door that is shut on one side", func(w *api.Land) { w.Rooms[4].Shut[2] = false })
}

func TestGoodBeingsRoom(t *testing.T) {
	for b := range api.Beings {
		for r := range api.Rooms {
			check(t, true, "a being's room", func(w *api.Land) { w.Beings[b].Room = r })
		}
		for _, r := range append([]int{6, 7, 8, 9}, wild...) {
			check(t, false, "a being in no room", func(w *api.Land) { w.Beings[b].Room = r })
		}
	}
}

func TestGoodBeingsHealth(t *testing.T) {
	for b := range api.Beings {
		for health := -3; health <= 13; health++ {
			for _, here := range []bool{false, true} {
				want := health >= 0 && health <= 10 && here == (health >= 1)
				check(t, want, "Health", func(w *api.Land) {
					w.Beings[b].Here, w.Beings[b].Health = here, health
					w.Things[8].Where, w.Things[8].At = api.InRoom, 0
				})
			}
		}
		for _, health := range wild {
			if health == 10 {
				continue
			}
			for _, here := range []bool{false, true} {
				check(t, false, "wild Health", func(w *api.Land) {
					w.Beings[b].Here, w.Beings[b].Health = here, health
					w.Things[8].Where, w.Things[8].At = api.InRoom, 0
				})
			}
		}
	}
}

func TestGoodFoe(t *testing.T) {
	for b := range api.Beings {
		for foe := -2; foe <= 9; foe++ {
			check(t, foe >= 0 && foe <= 6, "a Foe", func(w *api.Land) {
				w.Beings[b].Here, w.Beings[b].Health, w.Beings[b].Foe = true, 1, foe
			})
			check(t, foe == 0, "a Foe of one that is not Here", func(w *api.Land) {
				w.Beings[b].Here, w.Beings[b].Health, w.Beings[b].Foe = false, 0, foe
				w.Things[8].Where, w.Things[8].At = api.InRoom, 0
			})
		}
		for _, foe := range wild {
			check(t, false, "a wild Foe", func(w *api.Land) {
				w.Beings[b].Here, w.Beings[b].Health, w.Beings[b].Foe = true, 10, foe
			})
		}
	}
}

func TestGoodBeingsOtherwise(t *testing.T) {
	check(t, true, "all of one name, keen", func(w *api.Land) {
		for i := range w.Beings {
			w.Beings[i].Name, w.Beings[i].Keen = "", true
		}
	})
	check(t, false, "nobody, but the key is on one", func(w *api.Land) { w.Beings = [6]api.Being{} })
	check(t, true, "nobody", func(w *api.Land) {
		w.Beings = [6]api.Being{}
		w.Things[8].Where, w.Things[8].At = api.InRoom, 5
	})
}

func TestGoodKind(t *testing.T) {
	for i := range api.Things {
		if i == 3 {
			continue // something is in it: TestGoodBox
		}
		for _, where := range []int{api.InRoom, api.OnBeing, api.InBox} {
			for kind := range 4 {
				place := func(w *api.Land, on bool) {
					w.Things[i] = api.Thing{Kind: kind, Where: where, At: 0, On: on}
					if where == api.InBox {
						w.Things[i].At = 3
					}
				}
				check(t, true, "a thing that is not On", func(w *api.Land) { place(w, false) })
				may := kind == api.Lamp || kind == api.Box || kind == api.Cloak && where == api.OnBeing
				check(t, may, "a thing that is On", func(w *api.Land) { place(w, true) })
			}
			for _, kind := range append([]int{4, 5, 6, 7, 8, 9}, wild...) {
				for _, on := range []bool{false, true} {
					check(t, false, "a thing of no kind", func(w *api.Land) {
						w.Things[i] = api.Thing{Kind: kind, Where: where, At: 0, On: on}
						if where == api.InBox {
							w.Things[i].At = 3
						}
					})
				}
			}
		}
	}
}

func TestGoodPlace(t *testing.T) {
	for i := range api.Things {
		for at := -3; at <= 12; at++ {
			check(t, at >= 0 && at <= 5, "in a room", func(w *api.Land) {
				w.Things[i].Where, w.Things[i].At = api.InRoom, at
			})
			check(t, at == 0 || at == 1, "on a being", func(w *api.Land) {
				w.Things[i].Where, w.Things[i].At = api.OnBeing, at
			})
			check(t, (at == 3 || at == 7) && at != i, "in a box", func(w *api.Land) {
				w.Things[i].Where, w.Things[i].At = api.InBox, at
			})
			for _, where := range append([]int{3, 4, 5, 6, 7, 8, 9}, wild...) {
				check(t, false, "nowhere", func(w *api.Land) {
					w.Things[i].Where, w.Things[i].At = where, at
				})
			}
		}
		for where := range 3 {
			for _, at := range wild {
				check(t, false, "somewhere wild", func(w *api.Land) {
					w.Things[i].Where, w.Things[i].At = where, at
				})
			}
		}
	}
}

func TestGoodOnAnyBeingHere(t *testing.T) {
	for b := range api.Beings {
		for _, here := range []bool{false, true} {
			check(t, here, "on a being", func(w *api.Land) {
				w.Things[8].Where = api.InRoom
				w.Beings[b] = api.Being{}
				if here {
					w.Beings[b] = api.Being{Here: true, Health: 10}
				}
				w.Things[5].Where, w.Things[5].At = api.OnBeing, b
			})
		}
	}
}

func TestGoodBox(t *testing.T) {
	for kind := range 4 {
		check(t, kind == api.Box, "what the coin is in", func(w *api.Land) { w.Things[3].Kind = kind })
		check(t, kind == api.Box, "what the mug is in", func(w *api.Land) {
			w.Things[5].Kind = kind
			w.Things[6].Where, w.Things[6].At = api.InBox, 5
		})
	}
	check(t, true, "a lit lamp in a shut chest", func(w *api.Land) {
		w.Things[0] = api.Thing{Kind: api.Lamp, Where: api.InBox, At: 3, On: true}
	})
	check(t, true, "an open box on the cat, the chest in it", func(w *api.Land) {
		w.Things[7].Where, w.Things[7].At = api.OnBeing, 0
		w.Things[3].Where, w.Things[3].At = api.InBox, 7
	})
}

func TestGoodRings(t *testing.T) {
	if !land.Good(chain()) {
		t.Error("nine boxes, each in the next: not good")
	}
	w := chain()
	w.Things[8].Where, w.Things[8].At = api.OnBeing, 1
	if !land.Good(w) {
		t.Error("nine boxes, each in the next, on the rat: not good")
	}
	for at := range api.Things {
		w := chain()
		w.Things[8].Where, w.Things[8].At = api.InBox, at
		if land.Good(w) {
			t.Errorf("boxes that never end, the last in %d: good", at)
		}
	}
	for i := range api.Things {
		w := boxes()
		w.Things[i].Where, w.Things[i].At = api.InBox, i
		if land.Good(w) {
			t.Errorf("%d is in itself: good", i)
		}
	}
}

// P4.3

// wants is what Room should say.
func wants(t *testing.T, what string, w api.Land, i, room int, open bool) {
	t.Helper()
	if r, o := land.Room(w, i); r != room || o != open {
		t.Errorf("%s: Room of %d is %d, %v and not %d, %v", what, i, r, o, room, open)
	}
}

func TestRoomOfNew(t *testing.T) {
	w := land.New()
	for i, room := range []int{0, 3, 0, 4, 4, 1, 0, 0, 4} {
		wants(t, "New", w, i, room, i != 4)
	}
	w.Things[3].On = true
	wants(t, "the chest is open", w, 4, 4, true)
	w.Things[4].On = true
	w.Things[3].On = false
	wants(t, "the coin is On, but not the chest", w, 4, 4, false)
	wants(t, "a shut chest itself", w, 3, 4, true)
	for _, i := range append([]int{9}, wild...) {
		wants(t, "no such thing", w, i, -1, false)
	}
}

func TestRoomAsItStands(t *testing.T) {
	for _, room := range append([]int{0, 3, 5, 6, 7, 8, 9}, wild...) {
		w := land.New()
		w.Things[5].At = room
		wants(t, "in any room", w, 5, room, true)
		w = land.New()
		w.Things[3].At = room
		wants(t, "in a chest in any room", w, 4, room, false)
		for b := range api.Beings {
			w = land.New()
			w.Things[6].Where, w.Things[6].At = api.OnBeing, b
			w.Beings[b].Room = room
			wants(t, "on a being in any room", w, 6, room, true)
			w.Beings[b].Here = !w.Beings[b].Here
			wants(t, "whether it is Here or not", w, 6, room, true)
		}
	}
}

func TestRoomOnNoBeing(t *testing.T) {
	for _, b := range append([]int{6, 7, 8, 9}, wild...) {
		w := land.New()
		w.Things[3].Where, w.Things[3].At, w.Things[3].On = api.OnBeing, b, true
		wants(t, "on no being", w, 3, -1, false)
		wants(t, "in a chest on no being", w, 4, -1, false)
	}
}

func TestRoomInNoBox(t *testing.T) {
	for _, box := range append([]int{9}, wild...) {
		w := land.New()
		w.Things[3].Where, w.Things[3].At, w.Things[3].On = api.InBox, box, true
		wants(t, "in no box", w, 3, -1, false)
		wants(t, "in a chest in no box", w, 4, -1, false)
	}
}

func TestRoomNoPlace(t *testing.T) {
	for _, where := range append([]int{3, 4, 5, 6, 7, 8, 9}, wild...) {
		for at := range 9 {
			w := land.New()
			w.Things[3].Where, w.Things[3].At, w.Things[3].On = where, at, true
			wants(t, "at no place", w, 3, -1, false)
			wants(t, "in a chest at no place", w, 4, -1, false)
		}
	}
}

func TestRoomOfBoxes(t *testing.T) {
	w := chain()
	for i := range api.Things {
		wants(t, "open boxes", w, i, 2, true)
	}
	for shut := range api.Things {
		w := chain()
		w.Things[shut].On = false
		for i := range api.Things {
			wants(t, "a shut one among open boxes", w, i, 2, i >= shut)
		}
		w.Things[8].Where, w.Things[8].At = api.OnBeing, 1
		for i := range api.Things {
			wants(t, "on the rat", w, i, 4, i >= shut)
		}
	}
	for at := range api.Things {
		w := chain()
		w.Things[8].Where, w.Things[8].At = api.InBox, at
		for i := range api.Things {
			wants(t, "it never ends", w, i, -1, false)
		}
	}
}

func TestRoomWhateverKind(t *testing.T) {
	w := land.New()
	w.Things[5].Where, w.Things[5].At = api.InBox, 6
	wants(t, "in a mug", w, 5, 0, false)
	w.Things[6].On = true
	wants(t, "in a mug that is On", w, 5, 0, true)
	w.Things[5].Kind, w.Things[6].Kind = -7, 99
	wants(t, "of no kind", w, 5, 0, true)
}

func TestHasOfNew(t *testing.T) {
	w := land.New()
	has := func(where, at int, want ...int) {
		t.Helper()
		if got := land.Has(w, where, at); !slices.Equal(got, want) {
			t.Errorf("Has %d, %d: %v and not %v", where, at, got, want)
		}
	}
	has(api.InRoom, 0, 0, 2, 6, 7)
	has(api.InRoom, 1, 5)
	has(api.InRoom, 2)
	has(api.InRoom, 3, 1)
	has(api.InRoom, 4, 3)
	has(api.InRoom, 5)
	has(api.OnBeing, 0)
	has(api.OnBeing, 1, 8)
	has(api.InBox, 3, 4)
	has(api.InBox, 7)
	for _, n := range append([]int{6, 7, 8, 9}, wild...) {
		has(api.InRoom, n)
		has(n, 0)
		has(n, 3)
		has(api.OnBeing, n)
		has(api.InBox, n)
	}
}

func TestHasOfWhateverLands(t *testing.T) {
	for _, where := range append([]int{0, 1, 2, 3}, wild...) {
		for _, at := range append([]int{0, 5, 6, 9}, wild...) {
			w := land.New()
			for _, i := range []int{8, 0, 5} {
				w.Things[i].Where, w.Things[i].At = where, at
			}
			got := land.Has(w, where, at)
			for i, thing := range w.Things {
				if slices.Contains(got, i) != (thing.Where == where && thing.At == at) {
					t.Errorf("Has %d, %d: %v", where, at, got)
				}
			}
			if !slices.IsSorted(got) {
				t.Errorf("Has %d, %d: %v, not by number", where, at, got)
			}
		}
	}
	w := boxes()
	if got := land.Has(w, api.InRoom, 2); !slices.Equal(got, []int{0, 1, 2, 3, 4, 5, 6, 7, 8}) {
		t.Errorf("all of them: %v", got)
	}
}

func TestHasIsNew(t *testing.T) {
	w := land.New()
	list := land.Has(w, api.InRoom, 0)
	list[0] = 77
	if again := land.Has(w, api.InRoom, 0); again[0] != 0 {
		t.Errorf("Has once what it answered was changed: %v", again)
	}
}

func TestInsideOfNew(t *testing.T) {
	w := land.New()
	for i := range api.Things {
		for box := range api.Things {
			want := i == box || i == 4 && box == 3
			if land.Inside(w, i, box) != want {
				t.Errorf("Inside %d, %d is not %v", i, box, want)
			}
		}
	}
}

func TestInsideOnlyBoxes(t *testing.T) {
	w := land.New()
	w.Things[5].Where, w.Things[5].At = api.InRoom, 3
	w.Things[6].Where, w.Things[6].At = api.OnBeing, 3
	w.Things[0].Where, w.Things[0].At = 3, 3
	for _, i := range []int{5, 6, 0} {
		if land.Inside(w, i, 3) {
			t.Errorf("%+v is inside the chest", w.Things[i])
		}
	}
}

func TestInsideChain(t *testing.T) {
	w := chain()
	for i := range api.Things {
		for box := range api.Things {
			if land.Inside(w, i, box) != (i <= box) {
				t.Errorf("boxes, each in the next: Inside %d, %d is not %v", i, box, i <= box)
			}
		}
	}
	for at := range api.Things {
		w := chain()
		w.Things[8].Where, w.Things[8].At = api.InBox, at
		for i := range api.Things {
			for box := range api.Things {
				want := box >= min(i, at)
				if land.Inside(w, i, box) != want {
					t.Errorf("boxes, the last in %d: Inside %d, %d is not %v", at, i, box, want)
				}
			}
		}
	}
}

func TestInsideWhateverLands(t *testing.T) {
	for _, box := range append([]int{9}, wild...) {
		w := land.New()
		w.Things[3].Where, w.Things[3].At = api.InBox, box
		if !land.Inside(w, 4, 3) || !land.Inside(w, 3, 3) || land.Inside(w, 3, 4) {
			t.Errorf("a chest in no box, %d", box)
		}
		if land.Inside(w, 3, box) || land.Inside(w, 4, box) || land.Inside(w, 0, box) {
			t.Errorf("there is no box %d", box)
		}
		for i := range api.Things {
			if land.Inside(w, box, i) {
				t.Errorf("there is no thing %d", box)
			}
		}
		if land.Inside(w, box, box) {
			t.Errorf("there is no thing %d that is inside itself", box)
		}
	}
	w := land.New()
	w.Things[5].Where, w.Things[5].At = api.InBox, 6
	w.Things[6].On = true
	if !land.Inside(w, 5, 6) || land.Inside(w, 6, 5) {
		t.Error("in a mug")
	}
}

// TestWhateverGraph goes through all ways in which four things may be in one another, or in a room.
func TestWhateverGraph(t *testing.T) {
	const n, none = 4, 4
	for code := range 5 * 5 * 5 * 5 {
		var in [n]int
		w := boxes()
		for i := range n {
			in[i] = code % 5
			code /= 5
			if in[i] != none {
				w.Things[i].Where, w.Things[i].At = api.InBox, in[i]
			}
		}
		var inside [n][n]bool
		ends := true
		for i := range n {
			at := i
			for range n {
				if at != none {
					inside[i][at] = true
					at = in[at]
				}
			}
			ends = ends && at == none
			if room, open := land.Room(w, i); open != (at == none) || at == none && room != 2 || at != none && room != -1 {
				t.Errorf("%v: Room of %d is %d, %v", in, i, room, open)
			}
			for box := range n {
				if land.Inside(w, i, box) != inside[i][box] {
					t.Errorf("%v: Inside %d, %d is not %v", in, i, box, inside[i][box])
				}
			}
		}
		if land.Good(w) != ends {
			t.Errorf("%v: Good is not %v", in, ends)
		}
	}
}
