package rules_test

import (
	"math"
	"math/big"
	"strconv"
	"testing"

	"inglenook/api"
	"inglenook/land"
	"inglenook/rules"
)

// blow is how hard a being hits by a draw, reckoned without bounds.
func blow(draw, b int) int {
	left := new(big.Int).Mod(big.NewInt(int64(draw)), big.NewInt(3))
	return int(left.Int64()+int64(b))%3 + 1
}

// rounds sees what comes of a round.
func rounds(t *testing.T, what string, w api.Land, draw int, after api.Land, want ...api.Event) {
	t.Helper()
	got, row, code := rules.Round(w, draw)
	if code != api.OK {
		t.Errorf("%s: %d", what, code)
	}
	same(t, what, got, after, row, want)
}

// struck is a blow of one being at another one.
func struck(w api.Land, b, other, n int) api.Event {
	return both(w, b, other, api.Event{Kind: api.Struck, N: n})
}

// P7.10: how hard each being hits, by each draw.
func TestBlows(t *testing.T) {
	draws := append([]int{math.MaxInt64 - 2, math.MaxInt64 - 3, math.MinInt64 + 2}, wild...)
	for draw := -20; draw < 21; draw++ {
		draws = append(draws, draw)
	}
	for _, draw := range draws {
		for b := range api.Beings {
			for other := range api.Beings {
				w := bare()
				w.Beings[b].Foe = other + 1
				n := blow(draw, b)
				after := w
				after.Beings[other].Health -= n
				rounds(t, "draw "+strconv.Itoa(draw), w, draw, after, struck(w, b, other, n))
			}
		}
	}
	for b, want := range []int{1, 2, 3, 1, 2, 3} {
		if blow(0, b) != want {
			t.Errorf("being %d: %d", b, blow(0, b))
		}
	}
}

// P7.10: nobody fights, nothing happens.
func TestRoundOfPeace(t *testing.T) {
	for _, w := range []api.Land{land.New(), bare(), {}} {
		rounds(t, "peace", w, 1, w)
	}
}

// P7.10: who has a foe that is elsewhere or not about has none.
func TestFoeGone(t *testing.T) {
	w := bare()
	w.Beings[0].Foe, w.Beings[3].Foe, w.Beings[4].Foe = 2, 6, 4
	w.Beings[1].Room = 3
	w.Beings[5] = api.Being{Room: 2}
	after := w
	after.Beings[0].Foe, after.Beings[3].Foe = 0, 0
	after.Beings[3].Health = 7
	rounds(t, "gone", w, 0, after, struck(w, 4, 3, 2))
}

// P7.10: blows fall by number, in the dark and at who is hidden, too, and all hear of them.
func TestRoundByNumber(t *testing.T) {
	w := bare()
	w.Rooms[2].Dark = true
	for b := range w.Beings {
		w.Beings[b].Foe = (b+1)%6 + 1
	}
	after := w
	var row []api.Event
	for b := range w.Beings {
		n := blow(1, b)
		row = append(row, struck(after, b, (b+1)%6, n))
		after.Beings[(b+1)%6].Health -= n
	}
	rounds(t, "in the dark", w, 1, after, row...)
	_, got, _ := rules.Round(w, 1)
	want := api.Event{Kind: api.Struck, Room: 2, Actor: 0, Other: 1, N: 2, Who: "a", Whom: "b", By: [api.Beings]int{5, 3, 7, 7, 7, 7}}
	if got[0] != want {
		t.Errorf("%+v", got[0])
	}
	w = bare()
	w.Beings[3].Foe = 5
	w.Things[0] = api.Thing{Name: "cloak", Kind: api.Cloak, Where: api.OnBeing, At: 4, On: true}
	after = w
	after.Beings[4].Health = 8
	rounds(t, "hidden", w, 0, after, struck(w, 3, 4, 1))
}

// P7.10: who has Health below 1 dies: a being below Mobiles is gone, a player begins again.
func TestDeath(t *testing.T) {
	for b := range api.Beings {
		for health := 1; health <= 4; health++ {
			for draw := range 3 {
				w := loaded(b)
				for other := range w.Beings {
					if w.Beings[other].Foe == other+1 {
						w.Beings[other].Foe = 0
					}
				}
				hitter := (b + 2) % 6
				w.Beings[hitter].Room = 4
				w.Beings[(b+5)%6].Room = 4
				w.Beings[b].Foe, w.Beings[(b+1)%6].Foe, w.Beings[(b+3)%6].Foe = 0, 0, 0
				w.Beings[b].Health = health
				dies(t, w, b, hitter, draw)
			}
		}
	}
}

// dies sees what comes of a round in which one being alone is hit by another one.
func dies(t *testing.T, w api.Land, b, hitter, draw int) {
	t.Helper()
	what := "being " + strconv.Itoa(b) + " of health " + strconv.Itoa(w.Beings[b].Health)
	n := blow(draw, hitter)
	row := []api.Event{struck(w, hitter, b, n)}
	if w.Beings[b].Health > n {
		after := w
		after.Beings[b].Health -= n
		rounds(t, what, w, draw, after, row...)
		return
	}
	row = append(row, alone(w, b, api.Event{Kind: api.Died}))
	after := released(w, b)
	if b < 2 {
		after.Beings[b] = api.Being{}
	} else {
		after.Beings[b].Room, after.Beings[b].Health = 0, 10
		row = append(row, alone(after, b, api.Event{Kind: api.Arrived}))
		row = append(row, looks(after, b)...)
	}
	rounds(t, what, w, draw, after, row...)
}

// P7.10: a foe is as it is then: who died ahead of its turn hits nobody, and who fought it rests.
func TestFoeAsItIsThen(t *testing.T) {
	w := bare()
	w.Beings[0].Foe, w.Beings[1].Foe, w.Beings[4].Foe, w.Beings[5].Foe = 5, 5, 1, 5
	w.Beings[4].Health, w.Beings[4].Keen = 2, true
	after := w
	row := []api.Event{struck(w, 0, 4, 1)}
	after.Beings[4].Health = 1
	row = append(row, struck(after, 1, 4, 2), alone(after, 4, api.Event{Kind: api.Died}))
	after.Beings[0].Foe, after.Beings[1].Foe, after.Beings[4].Foe, after.Beings[5].Foe = 0, 0, 0, 0
	after.Beings[4].Room, after.Beings[4].Health = 0, 10
	row = append(row, alone(after, 4, api.Event{Kind: api.Arrived}))
	rounds(t, "a player", w, 0, after, append(row, looks(after, 4)...)...)
	if !after.Beings[4].Keen || after.Beings[4].Name != "e" {
		t.Error("it is still who it was")
	}

	w = bare()
	w.Beings[0].Foe, w.Beings[1].Foe, w.Beings[2].Foe = 2, 1, 2
	w.Beings[1].Health = 1
	after = w
	after.Beings[0].Foe, after.Beings[2].Foe = 0, 0
	after.Beings[1] = api.Being{}
	rounds(t, "a mobile", w, 2, after, struck(w, 0, 1, 3), alone(w, 1, api.Event{Kind: api.Died}))
}

// P7.10: who is its own foe hits itself, at last to death.
func TestOwnFoe(t *testing.T) {
	for b := range api.Beings {
		w := bare()
		w.Beings[b].Foe = b + 1
		after := w
		after.Beings[b].Health -= blow(0, b)
		rounds(t, "itself", w, 0, after, struck(w, b, b, blow(0, b)))
		w.Beings[b].Health = 1
		row := []api.Event{struck(w, b, b, blow(0, b)), alone(w, b, api.Event{Kind: api.Died})}
		after = w
		after.Beings[b] = api.Being{}
		if b >= 2 {
			after.Beings[b] = api.Being{Name: w.Beings[b].Name, Here: true, Health: 10}
			row = append(row, alone(after, b, api.Event{Kind: api.Arrived}))
			row = append(row, looks(after, b)...)
		}
		rounds(t, "itself to death", w, 0, after, row...)
	}
}

// P7.10: who dies where players begin lies there no more, but all that it had.
func TestDeathAtTheBeginning(t *testing.T) {
	w := bare()
	w.Rooms[0].Dark = true
	w.Beings[3].Room, w.Beings[4].Room, w.Beings[5].Room = 0, 0, 0
	w.Beings[3].Foe, w.Beings[4].Health = 5, 1
	w.Things[0] = api.Thing{Name: "lamp", Kind: api.Lamp, Where: api.OnBeing, At: 4, On: true}
	w.Things[1] = api.Thing{Name: "cloak", Kind: api.Cloak, Where: api.OnBeing, At: 4, On: true}
	after := w
	after.Things[0] = api.Thing{Name: "lamp", Kind: api.Lamp, On: true}
	after.Things[1] = api.Thing{Name: "cloak", Kind: api.Cloak}
	after.Beings[3].Foe, after.Beings[4].Health = 0, 10
	row := []api.Event{struck(w, 3, 4, 1), alone(w, 4, api.Event{Kind: api.Died}), alone(after, 4, api.Event{Kind: api.Arrived})}
	for _, line := range []string{"The hearth.", "Ways: north east up down*", "Here is lamp* cloak.", "d is here.", "f is here."} {
		row = append(row, told(after, 4, line))
	}
	if row[1].By != [api.Beings]int{3: 3, 4: 1, 5: 3} || row[2].By != [api.Beings]int{3: 1, 4: 1, 5: 1} {
		t.Errorf("%+v", row)
	}
	rounds(t, "at the hearth", w, 0, after, row...)
}

// P7.8, P7.10: who died has no foe itself, be its turn behind it or to come.
func TestDeadHaveNoFoe(t *testing.T) {
	for _, b := range []int{2, 4} {
		w := bare()
		w.Beings[b].Room, w.Beings[3].Room = 0, 0
		w.Beings[b].Foe, w.Beings[3].Foe = 4, b+1
		w.Beings[b].Health = 1
		after := w
		var row []api.Event
		if b < 3 {
			row = append(row, struck(after, b, 3, 3))
			after.Beings[3].Health = 6
		}
		row = append(row, struck(after, 3, b, 1), alone(after, b, api.Event{Kind: api.Died}))
		after.Beings[b].Foe, after.Beings[3].Foe, after.Beings[b].Health = 0, 0, 10
		row = append(row, alone(after, b, api.Event{Kind: api.Arrived}))
		rounds(t, "being "+strconv.Itoa(b), w, 0, after, append(row, looks(after, b)...)...)
	}
}
