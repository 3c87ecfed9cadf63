package words_test

import (
	"math"
	"regexp"
	"slices"
	"strconv"
	"strings"
	"testing"

	"inglenook/api"
	"inglenook/words"
)

// names is P5.2's verbs, by number.
var names = strings.Fields("north east up south west down look get drop put give say open close light douse wear doff hit inventory quit")

// short has what words begin more than one verb, or look as if they did.
var short = map[string]string{
	"n": "north", "e": "east", "u": "up", "s": "south", "w": "west", "d": "down",
	"l": "look", "g": "get", "p": "put", "o": "open", "c": "close", "h": "hit", "i": "inventory", "q": "quit",
	"no": "north", "ea": "east", "so": "south", "sa": "say", "we": "west", "wes": "west", "wea": "wear",
	"do": "down", "dow": "down", "dou": "douse", "dof": "doff", "dr": "drop",
	"lo": "look", "li": "light", "ge": "get", "gi": "give", "pu": "put", "op": "open", "cl": "close", "in": "inventory",
}

func TestSplit(t *testing.T) {
	for s, want := range map[string][]string{
		"":                                       nil,
		" ":                                      nil,
		"      ":                                 nil,
		"look":                                   {"look"},
		" look":                                  {"look"},
		"look ":                                  {"look"},
		"  Get   2.COIN from  box":               {"get", "2.coin", "from", "box"},
		"a b  c   d    ":                         {"a", "b", "c", "d"},
		"AZ az @[`{ 09":                          {"az", "az", "@[`{", "09"},
		"a\tb\nc\r \v\f \x00 \u00a0\u2003\u0085": {"a\tb\nc\r", "\v\f", "\x00", "\u00a0\u2003\u0085"},
		"ÄÖ \u0130 \u212a":                       {"ÄÖ", "\u0130", "\u212a"},
		"\xffA\xc3 \xa0B\x80":                    {"\xffa\xc3", "\xa0b\x80"},
	} {
		if got := words.Split(s); !slices.Equal(got, want) {
			t.Errorf("Split(%q) = %q, not %q", s, got, want)
		}
	}
}

func TestSplitEachByte(t *testing.T) {
	for c := range 256 {
		b := string([]byte{byte(c)})
		want := []string{"x" + b + "y"}
		switch {
		case c == ' ':
			want = []string{"x", "y"}
		case strings.Contains("ABCDEFGHIJKLMNOPQRSTUVWXYZ", b):
			want = []string{"x" + string(rune(c+32)) + "y"}
		}
		if got := words.Split("x" + b + "y"); !slices.Equal(got, want) {
			t.Errorf("byte %d: %q, not %q", c, got, want)
		}
	}
}

// each goes through all texts of at most so many of these pieces.
func each(pieces []string, most int, see func(string)) {
	level := []string{""}
	for n := 0; ; n++ {
		for _, s := range level {
			see(s)
		}
		if n == most {
			return
		}
		var next []string
		for _, s := range level {
			for _, p := range pieces {
				next = append(next, s+p)
			}
		}
		level = next
	}
}

func TestSplitAll(t *testing.T) {
	full := regexp.MustCompile(`[^ ]+`)
	each([]string{" ", "a", "B", ".", "\t"}, 7, func(s string) {
		want := full.FindAllString(strings.ReplaceAll(s, "B", "b"), -1)
		if got := words.Split(s); !slices.Equal(got, want) {
			t.Errorf("Split(%q) = %q, not %q", s, got, want)
		}
	})
}

func TestVerb(t *testing.T) {
	for v, name := range names {
		if got, e := words.Verb(name); got != v || e != api.OK {
			t.Errorf("%q: %d, %d", name, got, e)
		}
	}
	for w, name := range short {
		if got, e := words.Verb(w); got != slices.Index(names, name) || e != api.OK {
			t.Errorf("%q: %d, %d", w, got, e)
		}
	}
}

func TestVerbBegins(t *testing.T) {
	for _, name := range names {
		for n := 1; n <= len(name); n++ {
			want := slices.IndexFunc(names, func(other string) bool { return strings.HasPrefix(other, name[:n]) })
			if got, e := words.Verb(name[:n]); got != want || e != api.OK {
				t.Errorf("%q: %d, %d, not %d", name[:n], got, e, want)
			}
		}
	}
}

func TestVerbNone(t *testing.T) {
	wrong := []string{"", " ", "x", "xyzzy", "N", "Look", "LOOK", " look", "look ", "l ", "looks", "northe", "northeast", "go",
		"ook", "orth", "et", "t", "a", "b", "f", "j", "k", "m", "r", "v", "z", "dd", "quits", "\x00", "n\x00", "\xff", "north east", "inventories"}
	for _, name := range names {
		wrong = append(wrong, name+"x", name+" ", " "+name, name+".", strings.ToUpper(name), "x"+name)
	}
	for _, w := range wrong {
		if v, e := words.Verb(w); v != 0 || e != api.ErrNone {
			t.Errorf("%q: %d, %d", w, v, e)
		}
	}
}

// noun is what Noun answers.
type noun struct {
	n    int
	name string
	all  bool
	e    api.Errno
}

func ask(w string) noun {
	n, name, all, e := words.Noun(w)
	return noun{n, name, all, e}
}

func TestNoun(t *testing.T) {
	for w, want := range map[string]noun{
		"all":     {1, "", true, api.OK},
		"all.x":   {1, "x", true, api.OK},
		"all.all": {1, "all", true, api.OK},
		"all.2":   {1, "2", true, api.OK},
		"coin":    {1, "coin", false, api.OK},
		"x":       {1, "x", false, api.OK},
		"al":      {1, "al", false, api.OK},
		"alll":    {1, "alll", false, api.OK},
		"ALL":     {1, "ALL", false, api.OK},
		"all ":    {1, "all ", false, api.OK},
		"7":       {1, "7", false, api.OK},
		"0":       {1, "0", false, api.OK},
		"123":     {1, "123", false, api.OK},
		"a b":     {1, "a b", false, api.OK},
		" ":       {1, " ", false, api.OK},
		"\xff":    {1, "\xff", false, api.OK},
		"1.x":     {1, "x", false, api.OK},
		"2.coin":  {2, "coin", false, api.OK},
		"9.COIN":  {9, "COIN", false, api.OK},
		"10.x":    {10, "x", false, api.OK},
		"40.lamp": {40, "lamp", false, api.OK},
		"99.x":    {99, "x", false, api.OK},
		"2.all":   {2, "all", false, api.OK},
		"3.14":    {3, "14", false, api.OK},
		"3. ":     {3, " ", false, api.OK},
	} {
		if got := ask(w); got != want {
			t.Errorf("%q: %v, not %v", w, got, want)
		}
	}
}

func TestNounWrong(t *testing.T) {
	for _, w := range []string{
		"", ".", "..", ".x", "x.", "all.", ".all", "all..", "all..x", "all.x.", "all.x.y", "all.all.all", "1.", "12.", "1..x", "1.2.x", "1.x.y", "1.x.",
		"0.x", "00.x", "01.x", "09.x", "100.x", "001.x", "999.x", "12345678901234567890.x", "18446744073709551617.x",
		"+1.x", "-1.x", "1-.x", " 1.x", "1 .x", "1_.x", "0x1.x", "1a.x", "a1.x", "/.x", ":.x", "1/.x", "1:.x", "x.y", "al.x", "alll.x", "ALL.x", "All.x",
		"\u0661.x", "\u00b2.x", "\xff.x", "\xff\xff.x", "\x00.x", "1\x00.x", "12.\x00.",
	} {
		if got := ask(w); got != (noun{0, "", false, api.ErrForm}) {
			t.Errorf("%q: %v", w, got)
		}
	}
}

func TestNounEachNumber(t *testing.T) {
	for n := -200; n <= 1200; n++ {
		want := noun{n, "coin", false, api.OK}
		if n < 1 || n > 99 {
			want = noun{0, "", false, api.ErrForm}
		}
		if got := ask(strconv.Itoa(n) + ".coin"); got != want {
			t.Errorf("%d: %v", n, got)
		}
	}
}

func TestNounEachByte(t *testing.T) {
	for a := range 256 {
		for b := range 256 {
			w := string([]byte{byte(a), byte(b)})
			want := noun{0, "", false, api.ErrForm}
			if n, err := strconv.ParseUint(w, 10, 8); err == nil && n >= 10 {
				want = noun{int(n), "x", false, api.OK}
			}
			if got := ask(w + ".x"); got != want {
				t.Errorf("%q: %v, not %v", w+".x", got, want)
			}
		}
	}
}

// oneNoun is P5.3's forms.
var oneNoun = regexp.MustCompile(`^(?:(?:(all)|([1-9][0-9]?))\.)?([^.]+)$`)

func nounOf(w string) noun {
	m := oneNoun.FindStringSubmatch(w)
	switch {
	case w == "all":
		return noun{1, "", true, api.OK}
	case m == nil:
		return noun{0, "", false, api.ErrForm}
	case m[1] != "":
		return noun{1, m[3], true, api.OK}
	case m[2] != "":
		n, _ := strconv.Atoi(m[2])
		return noun{n, m[3], false, api.OK}
	}
	return noun{1, m[3], false, api.OK}
}

func TestNounAll(t *testing.T) {
	each([]string{"all", "a", ".", "0", "1", "9", " "}, 6, func(w string) {
		if got, want := ask(w), nounOf(w); got != want {
			t.Errorf("%q: %v, not %v", w, got, want)
		}
	})
}

func TestParse(t *testing.T) {
	for s, want := range map[string]api.Order{
		"N":                          {Verb: 0},
		"e":                          {Verb: 1},
		"u":                          {Verb: 2},
		"  South  ":                  {Verb: 3},
		"w":                          {Verb: 4},
		"d":                          {Verb: 5},
		"LOOK":                       {Verb: api.Look},
		"i":                          {Verb: api.Inventory},
		"quit":                       {Verb: api.Quit},
		"get all":                    {Verb: api.Get, Nth: 1, All: true},
		"get all.coin":               {Verb: api.Get, Nth: 1, All: true, Name: "coin"},
		"get all from chest":         {Verb: api.Get, Nth: 1, All: true, Second: "chest"},
		"get coin":                   {Verb: api.Get, Nth: 1, Name: "coin"},
		"get 2.coin 3.box":           {Verb: api.Get, Nth: 2, Name: "coin", Second: "3.box"},
		"Get Coin In Box":            {Verb: api.Get, Nth: 1, Name: "coin", Second: "box"},
		"get coin to box":            {Verb: api.Get, Nth: 1, Name: "coin", Second: "box"},
		"get coin fro":               {Verb: api.Get, Nth: 1, Name: "coin", Second: "fro"},
		"get from from from":         {Verb: api.Get, Nth: 1, Name: "from", Second: "from"},
		"get in chest":               {Verb: api.Get, Nth: 1, Name: "in", Second: "chest"},
		"get from":                   {Verb: api.Get, Nth: 1, Name: "from"},
		"drop 99.mug":                {Verb: api.Drop, Nth: 99, Name: "mug"},
		"drop all.mug":               {Verb: api.Drop, Nth: 1, All: true, Name: "mug"},
		"put all in box":             {Verb: api.Put, Nth: 1, All: true, Second: "box"},
		"put mug box":                {Verb: api.Put, Nth: 1, Name: "mug", Second: "box"},
		"put mug in to":              {Verb: api.Put, Nth: 1, Name: "mug", Second: "to"},
		"put mug in all.x.y":         {Verb: api.Put, Nth: 1, Name: "mug", Second: "all.x.y"},
		"give mug to Bob":            {Verb: api.Give, Nth: 1, Name: "mug", Second: "bob"},
		"give to bob":                {Verb: api.Give, Nth: 1, Name: "to", Second: "bob"},
		"give 2.mug bob":             {Verb: api.Give, Nth: 2, Name: "mug", Second: "bob"},
		"say  Hello,  You ":          {Verb: api.Say, Text: "Hello,  You"},
		"   SA x":                    {Verb: api.Say, Text: "x"},
		"say say":                    {Verb: api.Say, Text: "say"},
		"say \tA\xffB\x00\r\n  ":     {Verb: api.Say, Text: "\tA\xffB\x00\r\n"},
		"open n":                     {Verb: api.Open, Nth: 1, Name: "north"},
		"close Do":                   {Verb: api.Close, Nth: 1, Name: "down"},
		"open dow":                   {Verb: api.Open, Nth: 1, Name: "down"},
		"open s":                     {Verb: api.Open, Nth: 1, Name: "south"},
		"open we":                    {Verb: api.Open, Nth: 1, Name: "west"},
		"open wea":                   {Verb: api.Open, Nth: 1, Name: "wea"},
		"open l":                     {Verb: api.Open, Nth: 1, Name: "l"},
		"open look":                  {Verb: api.Open, Nth: 1, Name: "look"},
		"open downs":                 {Verb: api.Open, Nth: 1, Name: "downs"},
		"open 1.d":                   {Verb: api.Open, Nth: 1, Name: "d"},
		"open 2.north":               {Verb: api.Open, Nth: 2, Name: "north"},
		"close 2.box":                {Verb: api.Close, Nth: 2, Name: "box"},
		"light lamp":                 {Verb: api.Light, Nth: 1, Name: "lamp"},
		"light d":                    {Verb: api.Light, Nth: 1, Name: "d"},
		"douse 2.lamp":               {Verb: api.Douse, Nth: 2, Name: "lamp"},
		"wear cloak":                 {Verb: api.Wear, Nth: 1, Name: "cloak"},
		"doff cloak":                 {Verb: api.Doff, Nth: 1, Name: "cloak"},
		"hit 12.rat":                 {Verb: api.Hit, Nth: 12, Name: "rat"},
		"get \u00c4\xff FROM \u00d6": {Verb: api.Get, Nth: 1, Name: "\u00c4\xff", Second: "\u00d6"},
	} {
		if o, e := words.Parse(s); o != want || e != api.OK {
			t.Errorf("%q: %+v, %d, not %+v", s, o, e, want)
		}
	}
}

func TestParseWrong(t *testing.T) {
	for s, want := range map[string]api.Errno{
		"": api.ErrForm, " ": api.ErrForm, "    ": api.ErrForm,
		"xyzzy": api.ErrNone, "xyzzy all.x.y": api.ErrNone, "\tlook": api.ErrNone, "look\t": api.ErrNone, "looks": api.ErrNone, ".": api.ErrNone, "2.coin get": api.ErrNone,
		"say": api.ErrForm, " say  ": api.ErrForm, "SA ": api.ErrForm,
		"n n": api.ErrForm, "down x": api.ErrForm, "look mug": api.ErrForm, "i i": api.ErrForm, "quit now": api.ErrForm,
		"get": api.ErrForm, "drop ": api.ErrForm, "put": api.ErrForm, "give": api.ErrForm, "open": api.ErrForm, "close": api.ErrForm,
		"light": api.ErrForm, "douse": api.ErrForm, "wear": api.ErrForm, "doff": api.ErrForm, "hit": api.ErrForm,
		"get .": api.ErrForm, "get 0.x": api.ErrForm, "drop all.": api.ErrForm, "put x.y box": api.ErrForm, "open 100.box": api.ErrForm,
		"give all bob": api.ErrForm, "give all.mug to bob": api.ErrForm, "open all": api.ErrForm, "close all.box": api.ErrForm, "light all": api.ErrForm,
		"douse all": api.ErrForm, "wear all": api.ErrForm, "doff all.cloak": api.ErrForm, "hit all": api.ErrForm,
		"get mug from": api.ErrForm, "get mug in": api.ErrForm, "get mug to": api.ErrForm, "get mug out box": api.ErrForm, "get mug from box now": api.ErrForm, "get mug box in": api.ErrForm, "get mug from in box": api.ErrForm,
		"put mug": api.ErrForm, "put mug in": api.ErrForm, "put mug box in": api.ErrForm, "put all": api.ErrForm, "put mug into box": api.ErrForm,
		"give mug": api.ErrForm, "give mug to": api.ErrForm, "give mug to bob x": api.ErrForm,
		"drop mug box": api.ErrForm, "drop mug in box": api.ErrForm, "open d x": api.ErrForm, "open box x": api.ErrForm, "close in box": api.ErrForm,
		"light lamp x": api.ErrForm, "douse lamp x": api.ErrForm, "wear cloak x": api.ErrForm, "doff cloak x": api.ErrForm, "hit rat x": api.ErrForm,
	} {
		if o, e := words.Parse(s); e != want || o != (api.Order{}) {
			t.Errorf("%q: %+v, %d, not %d", s, o, e, want)
		}
	}
}

// seconds has where the Second stands behind a noun, by what the words there are: l for a link, w for any other.
var seconds = map[string]int{"w": 0, "lw": 1, "ll": 1}

// orderOf is P5.4, by tables.
func orderOf(list []string) (api.Order, api.Errno) {
	name := list[0]
	if s, ok := short[name]; ok {
		name = s
	}
	v := slices.Index(names, name)
	if v < 0 {
		return api.Order{}, api.ErrNone
	}
	many := len(list)
	o := api.Order{Verb: v}
	switch name {
	case "north", "east", "up", "south", "west", "down", "look", "inventory", "quit":
		if many == 1 {
			return o, api.OK
		}
		return api.Order{}, api.ErrForm
	case "say":
		if o.Text = strings.Join(list[1:], " "); many > 1 {
			return o, api.OK
		}
	}
	if many == 1 {
		return api.Order{}, api.ErrForm
	}
	way := list[1]
	if s, ok := short[way]; ok {
		way = s
	}
	if (name == "open" || name == "close") && many == 2 && slices.Contains(names[:6], way) {
		o.Nth, o.Name = 1, way
		return o, api.OK
	}
	n := nounOf(list[1])
	if n.e != api.OK || n.all && !slices.Contains([]string{"get", "drop", "put"}, name) {
		return api.Order{}, api.ErrForm
	}
	o.Nth, o.Name, o.All = n.n, n.name, n.all
	if many == 2 && name != "put" && name != "give" {
		return o, api.OK
	}
	form := ""
	for _, w := range list[2:] {
		if w == "from" || w == "in" || w == "to" {
			form += "l"
		} else {
			form += "w"
		}
	}
	at, ok := seconds[form]
	if !ok || !slices.Contains([]string{"get", "put", "give"}, name) {
		return api.Order{}, api.ErrForm
	}
	o.Second = list[2+at]
	return o, api.OK
}

func TestParseAll(t *testing.T) {
	first := append([]string{"xyzzy", "s", "sa", "d", "do", "dou", "dr", "g", "gi", "l", "li", "we", "wea", "all", "in"}, names...)
	pieces := []string{" mug", " all", " all.mug", " 2.mug", " x.y", " from", " in", " to", " d", " south", " l"}
	for _, f := range first {
		each(pieces, 4, func(s string) {
			list := strings.Split(f+s, " ")
			want, code := orderOf(list)
			if o, e := words.Parse(f + s); o != want || e != code {
				t.Fatalf("%q: %+v, %d, not %+v, %d", f+s, o, e, want, code)
			}
			if want.Text != "" || len(list) > 4 {
				return
			}
			loose := "  " + strings.ToUpper(strings.Join(list, "   ")) + " "
			if o, e := words.Parse(loose); o != want || e != code {
				t.Fatalf("%q: %+v, %d, not %+v, %d", loose, o, e, want, code)
			}
		})
	}
}

func TestSayEachByte(t *testing.T) {
	for c := range 256 {
		b := string([]byte{byte(c)})
		for s, text := range map[string]string{" say   " + b + " ": b, "say x" + b: "x" + b, "SAY " + b + "x": b + "x", "say x" + b + "  y": "x" + b + "  y"} {
			want, code := api.Order{Verb: api.Say, Text: strings.Trim(text, " ")}, api.OK
			if want.Text == "" {
				want, code = api.Order{}, api.ErrForm
			}
			if o, e := words.Parse(s); o != want || e != code {
				t.Errorf("%q: %+v, %d, not %+v", s, o, e, want)
			}
		}
	}
}

func TestDirection(t *testing.T) {
	for d, name := range names[:6] {
		if got, ok := words.Direction(name); got != d || !ok {
			t.Errorf("%q: %d, %v", name, got, ok)
		}
		if got := words.Called(d); got != name {
			t.Errorf("%d: %q", d, got)
		}
	}
	wrong := append([]string{"", " ", "n", "s", "d", "nort", "northe", "North", "NORTH", " up", "up ", "u", "do", "door", "x", "\xff", "all", "north.", "1.north"}, names[6:]...)
	for _, s := range wrong {
		if d, ok := words.Direction(s); d != 0 || ok {
			t.Errorf("%q: %d, %v", s, d, ok)
		}
	}
	for _, d := range []int{math.MinInt64, math.MinInt64 + 1, -1 << 32, -6, -1, 6, 7, 20, 21, 1 << 32, math.MaxInt64 - 1, math.MaxInt64} {
		if got := words.Called(d); got != "" {
			t.Errorf("%d: %q", d, got)
		}
	}
}

func TestAnswersAreNew(t *testing.T) {
	a := words.Split("get mug box")
	a[0], a[1], a[2] = "x", "y", "z"
	if b := words.Split("get mug box"); !slices.Equal(b, []string{"get", "mug", "box"}) {
		t.Errorf("%q", b)
	}
	if o, e := words.Parse("get mug box"); e != api.OK || o != (api.Order{Verb: api.Get, Nth: 1, Name: "mug", Second: "box"}) {
		t.Errorf("%+v, %d", o, e)
	}
}

func TestMuch(t *testing.T) {
	const many = 1 << 20
	for _, piece := range []string{" ", "a", "A ", "  b", ".", "1", "1.", "all.", "\xff"} {
		s := strings.Repeat(piece, many)
		want := 0
		switch piece {
		case "A ", "  b":
			want = many
		case " ":
		default:
			want = 1
		}
		if got := words.Split(s); len(got) != want {
			t.Errorf("%q: %d words", piece, len(got))
		}
		words.Verb(s)
		words.Noun(s)
		words.Direction(s)
		words.Parse(s)
		if o, e := words.Parse("say x" + s); e != api.OK || o.Text != "x"+strings.TrimRight(s, " ") {
			t.Errorf("%q: %d", piece, e)
		}
		words.Parse("get " + s)
		words.Parse("put x in " + s)
	}
}
