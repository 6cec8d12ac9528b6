package list

import (
	"fmt"
	"math"
	"math/rand"
	"slices"
	"strings"
	"testing"
	"time"
	"unsafe"

	"creel/api"
	"creel/meta"
	"creel/path"
	"creel/plan"
)

// owner is metadata with nothing wrong in it, and no field of value zero.
var owner = api.Meta{Mode: 0o644, UID: 1000, GID: 100, User: "ann", Group: "staff", Second: 1700000000, Nano: 5}

// far is metadata with nothing wrong in it, and as much of it as may be.
var far = api.Meta{Mode: 0o7777, UID: 1 << 50, GID: 1 << 50, User: xs(60), Group: xs(60), Second: -1 << 40, Nano: 1}

func xs(n int) string { return strings.Repeat("x", n) }

// dir, file, sym and hard are members of each kind.
func dir(s string) api.Entry { return api.Entry{Path: s, Kind: api.Dir} }

func file(s, data string) api.Entry {
	return api.Entry{Path: s, Kind: api.File, Data: []byte(data)}
}

func sym(s, target string) api.Entry { return api.Entry{Path: s, Kind: api.Sym, Target: target} }

func hard(s, target string) api.Entry { return api.Entry{Path: s, Kind: api.Link, Target: target} }

// of is a member with other metadata.
func of(m api.Meta, x api.Entry) api.Entry {
	x.Meta = m
	return x
}

// at is a member that was changed at a second.
func at(second int, x api.Entry) api.Entry {
	x.Meta.Second = second
	return x
}

// few are the members of the example of the whole system.
func few() []api.Entry { return []api.Entry{dir("a"), file("a/b", "x"), hard("c", "a/b")} }

// sample has members of every kind, with and without metadata and data.
func sample() []api.Entry {
	return []api.Entry{
		of(owner, dir("a")), of(owner, file("a/b", "one\x00")), dir("a/c"), of(owner, hard("a/c/d", "a/b")), file("a/c/e", xs(1100)), of(far, file("a/c/f", xs(512))),
		of(owner, sym("a-b", "../a//\xff")), hard("b", "a/c/e"), of(far, dir("c")), of(far, hard("c/a", "a/c/f")), file("d"+xs(399), xs(2000)), sym("e", xs(400)),
	}
}

// wide has n directories at its top.
func wide(n int) []api.Entry {
	var l []api.Entry
	for i := range n {
		l = append(l, dir(fmt.Sprintf("d%05d", i)))
	}
	return l
}

// great has as many members as there may be, each one as long as it may be.
func great() []api.Entry {
	var l []api.Entry
	for i := range api.MaxNodes {
		l = append(l, of(far, file(fmt.Sprintf("f%02d", i)+xs(397), xs(2000))))
	}
	return l
}

// lists are lists of members that may be.
func lists() [][]api.Entry {
	l := [][]api.Entry{nil, {}, few(), few()[:1], few()[:2], sample(), great(), {of(far, sym(xs(400), xs(400)))}}
	for n := range api.MaxNodes + 1 {
		l = append(l, wide(n))
	}
	for n := range sample() {
		l = append(l, sample()[:n])
	}
	return l
}

func wantDay(t *testing.T, second int, want string) {
	t.Helper()
	year, month, day, err := Day(second)
	if got := fmt.Sprint(year, month, day); got != want || err != api.OK {
		t.Errorf("Day of %d: %s, %d; want %s", second, got, err, want)
	}
}

// P20.1: dates that are known, from the first to the last second of each.
func TestDay(t *testing.T) {
	for first, want := range map[int]string{
		0: "1970 1 1", -86400: "1969 12 31", 86400: "1970 1 2", 31 * 86400: "1970 2 1", 365 * 86400: "1971 1 1", -365 * 86400: "1969 1 1", 951782400: "2000 2 29", 951868800: "2000 3 1",
		1709164800: "2024 2 29", 1792454400: "2026 10 20", 4107456000: "2100 2 28", 4107542400: "2100 3 1", -2203977600: "1900 2 28", -2203891200: "1900 3 1", 13574563200: "2400 2 29",
		-12219292800: "1582 10 15", -12219379200: "1582 10 14", -62135596800: "1 1 1", -62135683200: "0 12 31", -62162121600: "0 2 29", -62167219200: "0 1 1", -62167305600: "-1 12 31",
		-62198755200: "-1 1 1", -62198841600: "-2 12 31", -62288352000: "-4 2 29", -65317881600: "-100 2 28", -65317795200: "-100 3 1", -74784902400: "-400 2 29",
	} {
		for _, second := range []int{first, first + 1, first + 43200, first + 86399} {
			wantDay(t, second, want)
		}
	}
}

// P20.1: the bounds, and what is beyond them.
func TestDayBounds(t *testing.T) {
	wantDay(t, 1<<40, "36812 2 20")
	wantDay(t, -1<<40, "-32873 11 12")
	wantDay(t, 1<<40-86400, "36812 2 19")
	wantDay(t, -1<<40+86400, "-32873 11 13")
	for _, second := range []int{1<<40 + 1, -1<<40 - 1, 1 << 41, 1 << 62, -1 << 62, math.MaxInt, math.MinInt, math.MaxInt - 86399, math.MinInt + 86399} {
		if year, month, day, err := Day(second); year != 0 || month != 0 || day != 0 || err != api.ErrRange {
			t.Errorf("Day of %d: %d, %d, %d, %d", second, year, month, day, err)
		}
	}
}

// next is the day that follows, by the words of P20.1.
func next(year, month, day int) (int, int, int) {
	leap := year%4 == 0
	if year%100 == 0 && year%400 != 0 {
		leap = false
	}
	last := 31
	switch month {
	case 4, 6, 9, 11:
		last = 30
	case 2:
		last = 28
		if leap {
			last = 29
		}
	}
	switch {
	case day < last:
		return year, month, day + 1
	case month < 12:
		return year, month + 1, 1
	}
	return year + 1, 1, 1
}

// P20.1: every day of the years around the first and the last one, of year 0, and of now, and the ends of all months.
func TestDays(t *testing.T) {
	year, month, day := -32873, 11, 12
	// The first second of the first day is before the bound.
	for second := -1099511712000; second <= 1<<40; second += 86400 {
		nextYear, nextMonth, nextDay := next(year, month, day)
		near := year < -32860 || year > -410 && year < 410 || year > 1560 && year < 2420 || year > 36800
		if near || nextDay == 1 {
			for _, at := range []int{max(second, -1<<40), min(second+86399, 1<<40)} {
				if gotYear, gotMonth, gotDay, err := Day(at); gotYear != year || gotMonth != month || gotDay != day || err != api.OK {
					t.Fatalf("Day of %d: %d, %d, %d, %d; want %d, %d, %d", at, gotYear, gotMonth, gotDay, err, year, month, day)
				}
			}
		}
		year, month, day = nextYear, nextMonth, nextDay
	}
	if year != 36812 || month != 2 || day != 21 {
		t.Errorf("the last day is before %d, %d, %d", year, month, day)
	}
}

// P20.1: random seconds, against another calendar.
func TestDayRandom(t *testing.T) {
	random := rand.New(rand.NewSource(20))
	for range 200000 {
		second := random.Intn(1<<41+1) - 1<<40
		year, month, day := time.Unix(int64(second), 0).UTC().Date()
		wantDay(t, second, fmt.Sprint(year, int(month), day))
	}
}

func wantLine(t *testing.T, x api.Entry, want string) {
	t.Helper()
	if got, err := Line(x); got != want || err != api.OK {
		t.Errorf("Line: %.300q, %d; want %.300q", got, err, want)
	}
}

// P20.2: the example, and lines of each kind.
func TestLine(t *testing.T) {
	wantLine(t, of(api.Meta{Mode: 420}, file("a", "x")), "-rw-r--r-- 0/0 1 1970-01-01 00:00 a")
	wantLine(t, of(owner, file("a/b c", "one\x00")), "-rw-r--r-- ann/staff 4 2023-11-14 22:13 a/b c")
	wantLine(t, of(owner, dir("a")), "drw-r--r-- ann/staff 0 2023-11-14 22:13 a")
	wantLine(t, of(owner, sym("a", "../b -> c")), "lrw-r--r-- ann/staff 0 2023-11-14 22:13 a -> ../b -> c")
	wantLine(t, of(owner, hard("a", "b/c")), "hrw-r--r-- ann/staff 0 2023-11-14 22:13 a link to b/c")
	wantLine(t, hard("a", "a"), "h--------- 0/0 0 1970-01-01 00:00 a link to a")
	wantLine(t, sym("\xff\n", "/"), "l--------- 0/0 0 1970-01-01 00:00 \xff\n -> /")
	wantLine(t, of(far, file(xs(400), xs(2000))), "-rwsrwsrwt "+xs(60)+"/"+xs(60)+" 2000 -32873-11-12 23:23 "+xs(400))
	wantLine(t, of(far, sym(xs(400), xs(400))), "lrwsrwsrwt "+xs(60)+"/"+xs(60)+" 0 -32873-11-12 23:23 "+xs(400)+" -> "+xs(400))
	wantLine(t, of(far, hard(xs(400), xs(399)+"y")), "hrwsrwsrwt "+xs(60)+"/"+xs(60)+" 0 -32873-11-12 23:23 "+xs(400)+" link to "+xs(399)+"y")
}

// P20.2: the form of every mode.
func TestLineModes(t *testing.T) {
	for mode := range api.MaxMode + 1 {
		text, err := meta.Text(mode)
		if err != api.OK {
			t.Fatalf("Text of %o: %d", mode, err)
		}
		wantLine(t, of(api.Meta{Mode: mode}, dir("a")), "d"+text+" 0/0 0 1970-01-01 00:00 a")
	}
	wantLine(t, of(api.Meta{Mode: 0o1741}, dir("a")), "drwxr----t 0/0 0 1970-01-01 00:00 a")
	wantLine(t, of(api.Meta{Mode: 0o7000}, dir("a")), "d--S--S--T 0/0 0 1970-01-01 00:00 a")
}

// P20.2: a number stands for an owner or a group without a name.
func TestLineOwners(t *testing.T) {
	for _, c := range []struct {
		m    api.Meta
		want string
	}{
		{api.Meta{}, "0/0"}, {api.Meta{UID: 1, GID: 2}, "1/2"}, {api.Meta{UID: 1, GID: 2, User: "u"}, "u/2"}, {api.Meta{UID: 1, GID: 2, Group: "g"}, "1/g"},
		{api.Meta{UID: 1, GID: 2, User: "u", Group: "g"}, "u/g"}, {api.Meta{User: "7", Group: "0"}, "7/0"}, {api.Meta{UID: 5, GID: 6, User: "0", Group: "00"}, "0/00"}, {api.Meta{User: " ", Group: "/"}, " //"},
		{api.Meta{UID: 1 << 50, GID: 1<<50 - 1}, "1125899906842624/1125899906842623"}, {api.Meta{UID: 10, GID: 100, User: "\xff"}, "\xff/100"},
	} {
		wantLine(t, of(c.m, dir("a")), "d--------- "+c.want+" 0 1970-01-01 00:00 a")
	}
}

// P20.2: every number of bytes.
func TestLineSizes(t *testing.T) {
	for n := range api.MaxData + 1 {
		wantLine(t, file("a", xs(n)), fmt.Sprintf("---------- 0/0 %d 1970-01-01 00:00 a", n))
	}
}

// P20.2: the date, the hour and the minute, before 1970 and after it.
func TestLineTimes(t *testing.T) {
	for second, want := range map[int]string{
		0: "1970-01-01 00:00", 59: "1970-01-01 00:00", 60: "1970-01-01 00:01", 3599: "1970-01-01 00:59", 3600: "1970-01-01 01:00", 35999: "1970-01-01 09:59", 36000: "1970-01-01 10:00",
		86399: "1970-01-01 23:59", 86400: "1970-01-02 00:00", -1: "1969-12-31 23:59", -60: "1969-12-31 23:59", -61: "1969-12-31 23:58", -3600: "1969-12-31 23:00", -3601: "1969-12-31 22:59",
		-86400: "1969-12-31 00:00", -86401: "1969-12-30 23:59", 951782400: "2000-02-29 00:00", 1700000000: "2023-11-14 22:13", 253402300799: "9999-12-31 23:59", 253402300800: "10000-01-01 00:00",
		1 << 40: "36812-02-20 00:36", -62135596800: "1-01-01 00:00", -62135596801: "0-12-31 23:59", -62167219200: "0-01-01 00:00", -62167219201: "-1-12-31 23:59",
		-62198755201: "-2-12-31 23:59", -1 << 40: "-32873-11-12 23:23", -30610224000: "1000-01-01 00:00", -59958144000: "70-01-01 00:00",
	} {
		wantLine(t, at(second, dir("a")), "d--------- 0/0 0 "+want+" a")
		wantLine(t, of(api.Meta{Second: second, Nano: 999999999}, dir("a")), "d--------- 0/0 0 "+want+" a")
	}
}

// byWords is the line of a member that may be, by the words of P20.2, and with another calendar.
func byWords(x api.Entry) string {
	user, group := x.Meta.User, x.Meta.Group
	if user == "" {
		user = fmt.Sprint(x.Meta.UID)
	}
	if group == "" {
		group = fmt.Sprint(x.Meta.GID)
	}
	letter, target := "-", ""
	switch x.Kind {
	case api.Dir:
		letter = "d"
	case api.Sym:
		letter, target = "l", " -> "+x.Target
	case api.Link:
		letter, target = "h", " link to "+x.Target
	}
	mode, _ := meta.Text(x.Meta.Mode)
	at := time.Unix(int64(x.Meta.Second), 0).UTC()
	return fmt.Sprintf("%s%s %s/%s %d %d-%02d-%02d %02d:%02d %s%s", letter, mode, user, group, len(x.Data), at.Year(), at.Month(), at.Day(), at.Hour(), at.Minute(), x.Path, target)
}

// randomEntry is a member that may be wrong in any field.
func randomEntry(random *rand.Rand) api.Entry {
	paths := []string{"a", "a/b", "-> c", xs(400), "\xff", "a link to b"}
	names := []string{"", "", "u", xs(60), " "}
	x := api.Entry{Path: paths[random.Intn(len(paths))], Kind: 1 + random.Intn(4)}
	x.Meta = api.Meta{Mode: random.Intn(4096), UID: random.Intn(1 << random.Intn(51)), GID: random.Intn(1 << random.Intn(51)), User: names[random.Intn(len(names))], Group: names[random.Intn(len(names))]}
	x.Meta.Second, x.Meta.Nano = random.Intn(1<<random.Intn(41))-random.Intn(1<<random.Intn(41)), random.Intn(1000000000)
	switch x.Kind {
	case api.File:
		x.Data = []byte(xs(random.Intn(2001)))
	case api.Sym, api.Link:
		x.Target = paths[random.Intn(len(paths))]
	}
	if random.Intn(4) != 0 {
		return x
	}
	changes := []func(){
		func() { x.Path = []string{"", "/", "\x00", xs(401)}[random.Intn(4)] }, func() { x.Kind = random.Intn(7) - 1 }, func() { x.Meta.Mode = -1 }, func() { x.Meta.UID = 1<<50 + 1 }, func() { x.Meta.Group = xs(61) },
		func() { x.Meta.User = "\x00" }, func() { x.Meta.Second = 1<<40 + 1 }, func() { x.Meta.Nano = -1 }, func() { x.Target = []string{"", "\x00", "/", xs(401)}[random.Intn(4)] }, func() { x.Data = []byte(xs(2001)) },
	}
	for range 1 + random.Intn(2) {
		changes[random.Intn(len(changes))]()
	}
	return x
}

// P20.2: random members, right and wrong ones.
func TestLineRandom(t *testing.T) {
	random := rand.New(rand.NewSource(202))
	counts := map[api.Errno]int{}
	for range 20000 {
		x := randomEntry(random)
		err := plan.Right(x)
		counts[err]++
		want := ""
		if err == api.OK {
			want = byWords(x)
		}
		if got, gotErr := Line(x); got != want || gotErr != err {
			t.Fatalf("Line: %.300q, %d; want %.300q, %d", got, gotErr, want, err)
		}
	}
	for _, err := range []api.Errno{api.OK, api.ErrSize, api.ErrForm, api.ErrPath, api.ErrRange, api.ErrKind} {
		if counts[err] < 50 {
			t.Errorf("the members are too much alike: %v", counts)
		}
	}
}

// P20.2: the errors are those of plan.Right.
func TestLineErrors(t *testing.T) {
	for want, all := range map[api.Errno][]api.Entry{
		api.ErrSize:  {{}, dir(xs(401)), of(api.Meta{User: xs(61)}, dir("a")), of(api.Meta{Group: xs(61)}, dir("a")), file("a", xs(2001)), sym("a", xs(401)), hard("a", xs(401))},
		api.ErrForm:  {dir("a\x00"), of(api.Meta{User: "\x00"}, dir("a")), of(api.Meta{Group: "\x00"}, dir("a")), {Path: "a", Kind: api.Dir, Data: []byte("x")}, {Path: "a", Kind: api.File, Target: "b"}, sym("a", ""), hard("a", ""), sym("a", "\x00")},
		api.ErrPath:  {dir("/"), dir("a/.."), hard("a", "b/"), {Path: "..", Kind: 9, Meta: api.Meta{Mode: -1}}},
		api.ErrRange: {of(api.Meta{Mode: -1}, dir("a")), of(api.Meta{Mode: 4096}, dir("a")), of(api.Meta{UID: -1}, dir("a")), of(api.Meta{GID: 1<<50 + 1}, dir("a")), at(1<<40+1, dir("a")), at(math.MinInt, dir("a")), of(api.Meta{Nano: 1000000000}, dir("a")), {Path: "a", Meta: api.Meta{Nano: -1}}},
		api.ErrKind:  {{Path: "a"}, {Path: "a", Kind: 5}, {Path: "a", Kind: -1}, {Path: "a", Kind: math.MaxInt}, {Path: "a", Kind: math.MinInt, Data: []byte("x"), Target: "\x00"}},
	} {
		for _, x := range all {
			if got := plan.Right(x); got != want {
				t.Fatalf("Right of %.300q: %d, want %d", fmt.Sprint(x), got, want)
			}
			if got, err := Line(x); got != "" || err != want {
				t.Errorf("Line of %.300q: %q, %d; want %d", fmt.Sprint(x), got, err, want)
			}
			if got, err := All([]api.Entry{dir("A"), x, {}}); len(got) != 0 || err != want {
				t.Errorf("All with %.300q: %q, %d; want %d", fmt.Sprint(x), got, err, want)
			}
		}
	}
}

// P20.3: the lines of all members, in order.
func TestAll(t *testing.T) {
	want := []string{"d--------- 0/0 0 1970-01-01 00:00 a", "---------- 0/0 1 1970-01-01 00:00 a/b", "h--------- 0/0 0 1970-01-01 00:00 c link to a/b"}
	if got, err := All(few()); !slices.Equal(got, want) || err != api.OK {
		t.Errorf("All of the example: %q, %d", got, err)
	}
	for _, l := range lists() {
		var want []string
		for _, x := range l {
			want = append(want, byWords(x))
		}
		if got, err := All(l); !slices.Equal(got, want) || err != api.OK {
			t.Errorf("All of %d members: %.300q, %d; want %.300q", len(l), got, err, want)
		}
	}
}

// P20.3: the errors are those of plan.Check, wherever the wrong member is.
func TestAllErrors(t *testing.T) {
	for want, all := range map[api.Errno][][]api.Entry{
		api.ErrSize:  {wide(41), make([]api.Entry, 41), append(wide(40), api.Entry{Path: "/"}), {dir("")}},
		api.ErrPath:  {{dir("/a")}, append(wide(39), dir("/"))},
		api.ErrKind:  {{{Path: "a"}}, {dir("b"), {Path: "a", Kind: 5}}},
		api.ErrTwice: {{dir("b"), dir("a")}, {dir("a"), dir("a")}, {dir("a"), file("a", "")}, {dir("a-b"), dir("a"), dir("a/b")}},
		api.ErrUp:    {few()[1:], {dir("a/b")}, {file("a", ""), dir("a/b")}, {sym("a", "c"), dir("a/b")}, {dir("a"), file("a-b/c", "")}},
		api.ErrLink: {few()[2:], {dir("a"), hard("b", "a")}, {file("a", ""), hard("b", "a"), hard("c", "b")}, {hard("a", "b"), file("b", "")}, {hard("a", "a")},
			{of(owner, file("a", "")), hard("b", "a")}, {sym("a", "b"), hard("b", "a")}},
	} {
		for _, l := range all {
			tested := [][]api.Entry{l}
			if len(l) < 39 {
				tested = append(tested, append([]api.Entry{file("A", "x")}, l...), append(slices.Clone(l), api.Entry{}))
			}
			for _, l := range tested {
				if got := plan.Check(l); got != want {
					t.Fatalf("Check of %.300q: %d, want %d", fmt.Sprint(l), got, want)
				}
				if got, err := All(l); len(got) != 0 || err != want {
					t.Errorf("All of %.300q: %.300q, %d; want %d", fmt.Sprint(l), got, err, want)
				}
			}
		}
	}
}

// P20.3: random members in the order of paths, some of which are links to no file.
func TestAllRandom(t *testing.T) {
	random := rand.New(rand.NewSource(203))
	counts := map[api.Errno]int{}
	for range 5000 {
		var l []api.Entry
		for range random.Intn(6) {
			l = append(l, randomEntry(random))
		}
		slices.SortFunc(l, func(x, y api.Entry) int { return path.Compare(x.Path, y.Path) })
		err := plan.Check(l)
		counts[err]++
		var want []string
		if err == api.OK {
			for _, x := range l {
				want = append(want, byWords(x))
			}
		}
		if got, gotErr := All(l); !slices.Equal(got, want) || gotErr != err {
			t.Fatalf("All: %.300q, %d; want %.300q, %d", got, gotErr, want, err)
		}
	}
	if counts[api.OK] < 200 || counts[api.ErrLink] < 50 || counts[api.ErrUp] < 50 || counts[api.ErrTwice] < 50 {
		t.Errorf("the lists are too much alike: %v", counts)
	}
}

// P20.2 and P20.3: arguments are not changed, up to their capacity, and results share nothing with them or each other.
func TestMemory(t *testing.T) {
	for _, l := range lists() {
		l = append(slices.Clone(l), dir("behind"), file("more", "data"))[:len(l)]
		for i, x := range l {
			l[i].Data = append(append(make([]byte, 0, 3000), x.Data...), "behind"...)[:len(x.Data)]
		}
		before := all(l)
		one, _ := All(l)
		other, _ := All(l)
		if all(l) != before {
			t.Errorf("an argument was changed: %.300q", before)
		}
		want := slices.Clone(one)
		for i := range other[:cap(other)] {
			other[:cap(other)][i] = "!"
		}
		if !slices.Equal(one, want) {
			t.Errorf("two results share memory: %.300q", want)
		}
	}
}

// all is a list with its unused capacity, in one line.
func all(l []api.Entry) string {
	s := fmt.Sprintf("%q", fmt.Sprint(l[:cap(l)]))
	for _, x := range l[:cap(l)] {
		s += fmt.Sprintf("%q", x.Data[:cap(x.Data)])
	}
	return s
}

// P20.2: a line keeps no longer string alive.
func TestStrings(t *testing.T) {
	x := hard("a", "b")
	line, _ := Line(x)
	again, _ := Line(x)
	if unsafe.StringData(line) == unsafe.StringData(again) || unsafe.StringData(line) == unsafe.StringData(x.Path) {
		t.Errorf("two lines share memory: %q", line)
	}
}

// P20.1 to P20.3: no argument takes long.
func TestLong(t *testing.T) {
	begin := time.Now()
	long := xs(1 << 26)
	for _, x := range []api.Entry{dir(long), file("a", long), sym("a", long), of(api.Meta{User: long}, dir("a"))} {
		if got, err := Line(x); got != "" || err != api.ErrSize {
			t.Errorf("Line of a long member: %.100q, %d", got, err)
		}
	}
	if got, err := All(make([]api.Entry, 1<<20)); len(got) != 0 || err != api.ErrSize {
		t.Errorf("All of many members: %.100q, %d", got, err)
	}
	if d := time.Since(begin); d > 10*time.Second {
		t.Errorf("it took %s", d)
	}
}
