package ledgers_test

import (
	"math"
	"math/rand"
	"regexp"
	"runtime"
	"slices"
	"strconv"
	"strings"
	"sync"
	"testing"
	"unsafe"

	"assayer/api"
	"assayer/ledgers"
	"assayer/tokens"
)

// longestKey is how many bytes a key has at most.
const longestKey = 64

const ownWords = "most least sum rows vars whole free end"

func tenant(name, key string, rate int) api.Tenant {
	return api.Tenant{Name: name, Key: key, Rate: rate}
}

// of is tenants of these rates, with names that are unlike: a0, a1 and so on.
func of(rates ...int) []api.Tenant {
	var l []api.Tenant
	for i, rate := range rates {
		l = append(l, tenant("a"+strconv.Itoa(i), "key", rate))
	}
	return l
}

// some is so many tenants, of the rates 1, 2 and so on.
func some(n int) []api.Tenant {
	rates := make([]int, n)
	for i := range rates {
		rates[i] = i + 1
	}
	return of(rates...)
}

// made is a ledger of tenants that may be.
func made(t *testing.T, l []api.Tenant) *ledgers.Ledger {
	t.Helper()
	out, e := ledgers.New(l)
	if out == nil || e != api.OK {
		t.Fatalf("New(%.200v): %t, %d", l, out != nil, e)
	}
	return out
}

// wantNew wants that tenants may be, and are all there with nothing to spend; or that they may not.
func wantNew(t *testing.T, may bool, l ...api.Tenant) {
	t.Helper()
	if !may {
		if out, e := ledgers.New(l); out != nil || e != api.ErrArg {
			t.Errorf("New(%.200v): %t, %d", l, out != nil, e)
		}
		return
	}
	out := made(t, l)
	for i, want := range l {
		wantFound(t, out, want, i)
		wantLeft(t, out, i, 0)
	}
	wantNoPlace(t, out, len(l))
}

func wantFound(t *testing.T, l *ledgers.Ledger, want api.Tenant, place int) {
	t.Helper()
	if got, at, e := l.Find(want.Name); got != want || at != place || e != api.OK {
		t.Errorf("Find(%q): %v at %d, %d, but it is %v at %d", want.Name, got, at, e, want, place)
	}
}

func wantNotFound(t *testing.T, l *ledgers.Ledger, name string, want api.Errno) {
	t.Helper()
	if got, at, e := l.Find(name); got != (api.Tenant{}) || at != 0 || e != want {
		t.Errorf("Find(%.70q): %v at %d, %d, but it is %d", name, got, at, e, want)
	}
}

func wantLeft(t *testing.T, l *ledgers.Ledger, place, want int) {
	t.Helper()
	if n, e := l.Left(place); n != want || e != api.OK {
		t.Errorf("Left(%d): %d, %d, but it is %d", place, n, e, want)
	}
}

func wantSpend(t *testing.T, l *ledgers.Ledger, place, n int, want api.Errno) {
	t.Helper()
	if e := l.Spend(place, n); e != want {
		t.Errorf("Spend(%d, %d): %d, but it is %d", place, n, e, want)
	}
}

func wantTick(t *testing.T, l *ledgers.Ledger, want api.Errno) {
	t.Helper()
	if e := l.Tick(); e != want {
		t.Errorf("Tick: %d, but it is %d", e, want)
	}
}

// wantNoPlace wants that a ledger of so many tenants has none ahead of them and behind them.
func wantNoPlace(t *testing.T, l *ledgers.Ledger, tenants int) {
	t.Helper()
	for _, place := range []int{-1, -tenants, -1 << 32, math.MinInt, tenants, tenants + 1, 1 << 32, math.MaxInt} {
		if n, e := l.Left(place); n != 0 || e != api.ErrArg {
			t.Errorf("Left(%d) of %d: %d, %d", place, tenants, n, e)
		}
		for _, n := range []int{0, 1, -1, math.MinInt, math.MaxInt} {
			wantSpend(t, l, place, n, api.ErrArg)
		}
	}
}

// TestExamples: the chapter's.
func TestExamples(t *testing.T) { // P13.1 to P13.4
	ann, bob := tenant("ann", "k", 5), tenant("bob", "k", 2)
	l := made(t, []api.Tenant{ann, bob})
	wantLeft(t, l, 0, 0)
	wantTick(t, l, api.OK)
	wantLeft(t, l, 0, 5)
	wantSpend(t, l, 0, 3, api.OK)
	wantLeft(t, l, 0, 2)
	wantLeft(t, l, 1, 2)
	wantSpend(t, l, 0, 3, api.ErrLimit)
	wantSpend(t, l, 2, 1, api.ErrArg)
	wantSpend(t, l, 0, -1, api.ErrArg)
	wantFound(t, l, bob, 1)
	wantNotFound(t, l, "eve", api.ErrNone)
	wantNew(t, false)
	wantNew(t, false, ann, ann)
	wantNew(t, false, tenant("ann", "k", 0))
	wantNew(t, false, tenant("ann", "", 5))
}

func TestNewTenants(t *testing.T) { // P13.1
	for n := 1; n <= api.MaxTenants; n++ {
		wantNew(t, true, some(n)...)
	}
	for _, n := range []int{0, api.MaxTenants + 1, api.MaxTenants + 2, 2 * api.MaxTenants, 256, 257, 1 << 16} {
		wantNew(t, false, some(n)...)
	}
	wantNew(t, false, []api.Tenant{}...)
	wantNew(t, false, api.Tenant{})
}

// TestNewAnyPlace: one that may not be is told, wherever it stands.
func TestNewAnyPlace(t *testing.T) { // P13.1
	for _, n := range []int{1, 2, 3, api.MaxTenants} {
		for i := range n {
			for _, spoil := range []func(*api.Tenant){
				func(x *api.Tenant) { x.Name = "" },
				func(x *api.Tenant) { x.Name = "end" },
				func(x *api.Tenant) { x.Name = "_a" },
				func(x *api.Tenant) { x.Key = "" },
				func(x *api.Tenant) { x.Key = strings.Repeat("k", longestKey+1) },
				func(x *api.Tenant) { x.Rate = 0 },
				func(x *api.Tenant) { x.Rate = api.MaxBudget + 1 },
			} {
				l := some(n)
				spoil(&l[i])
				wantNew(t, false, l...)
			}
		}
	}
}

// TestNewTwice: no two names are the same, whatever else the tenants have; keys and rates may be.
func TestNewTwice(t *testing.T) { // P13.1
	for i := range api.MaxTenants {
		for j := range i {
			l := some(api.MaxTenants)
			l[i].Name = l[j].Name
			wantNew(t, false, l...)
			l[i].Key, l[j].Key = "ann", "bob"
			wantNew(t, false, l...)
			l = some(api.MaxTenants)
			l[i].Rate = l[j].Rate
			wantNew(t, true, l...)
			l[i].Key = "another"
			wantNew(t, true, l...)
		}
	}
	wantNew(t, true, tenant("ann", "ann", 1), tenant("Ann", "ann", 1), tenant("aNN", "ann", 1), tenant("ann_", "ann", 1), tenant("an", "ann", 1))
}

func TestNewKeys(t *testing.T) { // P13.1
	for n := range 2*longestKey + 2 {
		for _, part := range []string{"k", "\x00", "\xff"} {
			wantNew(t, n >= 1 && n <= longestKey, tenant("ann", strings.Repeat(part, n), 1))
		}
	}
	for _, n := range []int{256, 256 + longestKey, 1 << 16, 1<<16 + 1} {
		wantNew(t, false, tenant("ann", strings.Repeat("k", n), 1))
	}
	// A key's length is that of its bytes.
	wantNew(t, true, tenant("ann", strings.Repeat("é", longestKey/2), 1))
	wantNew(t, false, tenant("ann", strings.Repeat("é", longestKey/2+1), 1))
	for c := range 256 {
		wantNew(t, true, tenant("ann", string([]byte{byte(c)}), 1))
	}
	for word := range strings.FieldsSeq(ownWords) {
		wantNew(t, true, tenant("ann", word, 1))
	}
}

func TestNewRates(t *testing.T) { // P13.1
	for _, rate := range []int{1, 2, 255, 256, 1 << 16, 1000000000, api.MaxBudget - 1, api.MaxBudget} {
		wantNew(t, true, tenant("ann", "k", rate))
	}
	for _, rate := range []int{0, -1, -2, -api.MaxBudget, math.MinInt32, math.MinInt, -1<<32 + 1, api.MaxBudget + 1, math.MaxInt32, 1 << 32, 1<<32 + 1, math.MaxInt} {
		wantNew(t, false, tenant("ann", "k", rate))
	}
}

var ordinary = regexp.MustCompile(`^[A-Za-z][A-Za-z0-9_]{0,31}$`)

// mayBeName tells whether a text is a name, as the document has it and as package tokens has.
func mayBeName(t *testing.T, s string) bool {
	t.Helper()
	may := ordinary.MatchString(s) && !slices.Contains(strings.Fields(ownWords), s)
	if tokens.Name(s) != may {
		t.Fatalf("Name(%.70q): %t", s, !may)
	}
	return may
}

func wantName(t *testing.T, s string) {
	t.Helper()
	wantNew(t, mayBeName(t, s), tenant(s, "k", 1))
}

// TestNewNameBytes: each byte, in each place.
func TestNewNameBytes(t *testing.T) { // P13.1
	for c := range 256 {
		one := string([]byte{byte(c)})
		for _, s := range []string{one, one + one, one + "b", "a" + one, "a" + one + "b", "a1" + one, one + "1", one + "_"} {
			wantName(t, s)
		}
	}
	for n := range api.MaxName {
		for _, c := range []string{"z", "Z", "9", "_", " ", "-", "\x00", "\xff"} {
			wantName(t, strings.Repeat("a", n)+c+strings.Repeat("a", api.MaxName-1-n))
		}
	}
}

func TestNewNameLengths(t *testing.T) { // P13.1
	for n := range 3 * api.MaxName {
		for _, part := range []string{"a", "Z", "7", "_"} {
			wantName(t, strings.Repeat(part, n))
			wantName(t, "x"+strings.Repeat(part, n))
		}
	}
	for _, n := range []int{255, 256, 257, 256 + api.MaxName, 1 << 16, 1<<16 + 1} {
		wantName(t, strings.Repeat("a", n))
	}
	for _, s := range []string{"é", "aé", "éa", "ª", "a²", "Ａ", "a\u0301", "a b", " a", "a ", "a\n", "\ta"} {
		wantName(t, s)
	}
}

// TestNewOwnWords: the language's own words alone are no names; what is like them is.
func TestNewOwnWords(t *testing.T) { // P13.1
	for word := range strings.FieldsSeq(ownWords) {
		wantNew(t, false, tenant(word, "k", 1))
		wantNew(t, false, tenant("ann", "k", 1), tenant(word, "k", 1))
		for _, s := range []string{strings.ToUpper(word), strings.ToUpper(word[:1]) + word[1:], word + "_", word + "1", "x" + word, word[1:], word[:len(word)-1], word + word} {
			wantNew(t, true, tenant(s, "k", 1))
		}
	}
}

// TestFind: just that name, at its own place, whatever was spent.
func TestFind(t *testing.T) { // P13.2
	l := []api.Tenant{tenant("ann", "\x00\xff", 5), tenant("Ann", "ann", 2), tenant("an", "an", 1), tenant("ann1", "ann", 7), tenant("x_"+strings.Repeat("9", 30), strings.Repeat("k", longestKey), api.MaxBudget)}
	a := made(t, l)
	look := func() {
		t.Helper()
		for i, want := range l {
			wantFound(t, a, want, i)
		}
		for _, name := range []string{"", "a", "aNN", "ANN", "ann ", " ann", "ann\x00", "annn", "ann2", "k", "0", "1", "most", "é", "\xff", "x_", strings.Repeat("a", 1<<20)} {
			wantNotFound(t, a, name, api.ErrNone)
		}
	}
	look()
	wantTick(t, a, api.OK)
	look()
	wantSpend(t, a, 0, 5, api.OK)
	wantSpend(t, a, 3, 2, api.OK)
	look()
	slices.Reverse(l)
	a = made(t, l)
	look()
}

// TestFindSpend: the place that Find tells is that of what Spend and Left take.
func TestFindSpend(t *testing.T) { // P13.2, P13.3
	l := some(api.MaxTenants)
	a := made(t, l)
	wantTick(t, a, api.OK)
	for _, x := range l {
		got, place, _ := a.Find(x.Name)
		wantLeft(t, a, place, got.Rate)
		wantSpend(t, a, place, got.Rate+1, api.ErrLimit)
		wantSpend(t, a, place, got.Rate, api.OK)
	}
	for i := range l {
		wantLeft(t, a, i, 0)
	}
}

// TestTick: what is left is the rate, not more, whatever was left.
func TestTick(t *testing.T) { // P13.3
	rates := []int{1, 2, 1000, api.MaxBudget - 1, api.MaxBudget}
	for _, spent := range []int{0, 1} {
		a := made(t, of(rates...))
		for range 10 {
			wantTick(t, a, api.OK)
			for i, rate := range rates {
				wantLeft(t, a, i, rate)
				wantSpend(t, a, i, spent, api.OK)
				wantLeft(t, a, i, rate-spent)
			}
		}
		wantTick(t, a, api.OK)
		wantTick(t, a, api.OK)
		for i, rate := range rates {
			wantLeft(t, a, i, rate)
			wantSpend(t, a, i, rate, api.OK)
			wantLeft(t, a, i, 0)
		}
	}
}

// TestSpend: all that there is, and no more; what is refused takes nothing.
func TestSpend(t *testing.T) { // P13.3
	for _, rate := range []int{1, 2, 5, 1 << 16, api.MaxBudget} {
		a := made(t, of(rate, rate))
		refuse := func(left int) {
			t.Helper()
			for _, n := range []int{left + 1, left + 2, math.MaxInt32 + 1, 1<<32 + left, math.MaxInt - 1, math.MaxInt} {
				wantSpend(t, a, 0, n, api.ErrLimit)
			}
			for _, n := range []int{-1, -2, -left, -left - 1, math.MinInt32, math.MinInt + 1, math.MinInt} {
				if n < 0 {
					wantSpend(t, a, 0, n, api.ErrArg)
				}
			}
			wantNoPlace(t, a, 2)
			wantSpend(t, a, 0, 0, api.OK)
			wantLeft(t, a, 0, left)
		}
		refuse(0)
		wantTick(t, a, api.OK)
		refuse(rate)
		wantSpend(t, a, 0, rate-1, api.OK)
		refuse(1)
		wantSpend(t, a, 0, 1, api.OK)
		refuse(0)
		wantLeft(t, a, 1, rate)
		wantTick(t, a, api.OK)
		wantSpend(t, a, 0, rate, api.OK)
		refuse(0)
		wantLeft(t, a, 1, rate)
	}
}

// account is what one tenant may spend, as a list of numbers has it.
type account struct{ rate, left int }

// TestDrawn: calls drawn at random, held against a list; what one spends changes nothing of the others'.
func TestDrawn(t *testing.T) { // P13.3, P13.4
	r := rand.New(rand.NewSource(13))
	for range 300 {
		want := make([]account, 1+r.Intn(api.MaxTenants))
		rates := make([]int, len(want))
		for i := range want {
			rates[i] = 1 + r.Intn([]int{3, 20, api.MaxBudget}[r.Intn(3)])
			want[i].rate = rates[i]
		}
		a := made(t, of(rates...))
		for range 300 {
			drawnCall(t, r, a, want)
			for i, w := range want {
				wantLeft(t, a, i, w.left)
			}
		}
	}
}

// drawnCall is one call of any kind, and what it does to a list.
func drawnCall(t *testing.T, r *rand.Rand, a *ledgers.Ledger, want []account) {
	t.Helper()
	if r.Intn(8) == 0 {
		wantTick(t, a, api.OK)
		for i := range want {
			want[i].left = want[i].rate
		}
		return
	}
	place := r.Intn(len(want)+2) - 1
	if place < 0 || place == len(want) {
		wantSpend(t, a, place, r.Intn(5)-1, api.ErrArg)
		return
	}
	left := want[place].left
	n := []int{r.Intn(left + 1), r.Intn(5) - 1, left, left + 1, left - 1, 1, r.Intn(api.MaxBudget)}[r.Intn(7)]
	switch {
	case n < 0:
		wantSpend(t, a, place, n, api.ErrArg)
	case n > left:
		wantSpend(t, a, place, n, api.ErrLimit)
	default:
		wantSpend(t, a, place, n, api.OK)
		want[place].left -= n
	}
}

// TestAll: what was spent since the last Tick, and what is left, are the rate.
func TestAll(t *testing.T) { // P13.4
	r := rand.New(rand.NewSource(134))
	rates := []int{7, 100, api.MaxBudget, 1}
	a := made(t, of(rates...))
	for range 200 {
		wantTick(t, a, api.OK)
		spent := make([]int, len(rates))
		for range 50 {
			place := r.Intn(len(rates))
			n := r.Intn(2 + rates[place]/2)
			if a.Spend(place, n) == api.OK {
				spent[place] += n
			}
			for i, rate := range rates {
				if left, e := a.Left(i); e != api.OK || left < 0 || left+spent[i] != rate {
					t.Fatalf("of %d, %d are spent and %d left, %d", rate, spent[i], left, e)
				}
			}
		}
	}
}

// TestNone: no ledger, and one that New did not make.
func TestNone(t *testing.T) { // R2, R3
	var none *ledgers.Ledger
	for _, l := range []*ledgers.Ledger{none, {}, new(ledgers.Ledger)} {
		for range 2 {
			for _, name := range []string{"", "ann", "most", "\xff"} {
				wantNotFound(t, l, name, api.ErrNil)
			}
			wantTick(t, l, api.ErrNil)
			for _, place := range []int{0, 1, -1, math.MinInt, math.MaxInt} {
				for _, n := range []int{0, 1, -1, math.MinInt, math.MaxInt} {
					wantSpend(t, l, place, n, api.ErrNil)
				}
				if n, e := l.Left(place); n != 0 || e != api.ErrNil {
					t.Errorf("Left(%d): %d, %d", place, n, e)
				}
			}
		}
	}
}

// TestHandedIn: what is handed in is neither changed nor kept.
func TestHandedIn(t *testing.T) { // R4
	room := some(4)
	before := slices.Clone(room)
	a := made(t, room[:2])
	wantTick(t, a, api.OK)
	wantSpend(t, a, 1, 1, api.OK)
	if !slices.Equal(room, before) {
		t.Errorf("what was handed in is %v now", room)
	}
	for i := range room {
		room[i] = tenant("eve", "eve", 9)
	}
	for i, want := range before[:2] {
		wantFound(t, a, want, i)
	}
	wantNotFound(t, a, "eve", api.ErrNone)
	wantTick(t, a, api.OK)
	wantLeft(t, a, 0, 1)
	wantLeft(t, a, 1, 2)
	wantNoPlace(t, a, 2)
}

// TestNewTexts: what is answered is in memory of its own.
func TestNewTexts(t *testing.T) { // R4
	in := []api.Tenant{tenant("ann", "a key", 1), tenant("bob", "another", 1)}
	a := made(t, in)
	seen := map[*byte]int{}
	for _, x := range in {
		seen[unsafe.StringData(x.Name)]++
		seen[unsafe.StringData(x.Key)]++
	}
	for range 3 {
		for _, x := range in {
			got, _, _ := a.Find(x.Name)
			seen[unsafe.StringData(got.Name)]++
			seen[unsafe.StringData(got.Key)]++
		}
	}
	if len(seen) != 16 {
		t.Errorf("16 texts lie in %d places", len(seen))
	}
}

// TestKept: texts of which names and keys are parts are not kept.
func TestKept(t *testing.T) { // R4
	before := used()
	var all []*ledgers.Ledger
	for range 16 {
		s := "ann" + strings.Repeat("k", 1<<22)
		all = append(all, made(t, []api.Tenant{tenant(s[:3], s[3:13], 1)}))
	}
	if n := used() - before; n > 1<<22 {
		t.Errorf("%d bytes are kept", n)
	}
	for _, a := range all {
		wantFound(t, a, tenant("ann", "kkkkkkkkkk", 1), 0)
	}
}

// used is how many bytes are in use.
func used() int {
	runtime.GC()
	var m runtime.MemStats
	runtime.ReadMemStats(&m)
	return int(m.HeapAlloc)
}

// TestApart: two ledgers do not meet, in turns or at one time.
func TestApart(t *testing.T) { // R5
	l := of(5, 2)
	a, b := made(t, l), made(t, l)
	wantTick(t, a, api.OK)
	wantLeft(t, b, 0, 0)
	wantTick(t, b, api.OK)
	wantSpend(t, a, 0, 4, api.OK)
	wantLeft(t, a, 0, 1)
	wantLeft(t, b, 0, 5)
	wantTick(t, b, api.OK)
	wantLeft(t, a, 0, 1)
	var all sync.WaitGroup
	for i := range 8 {
		all.Go(func() {
			own := made(t, of(1000+i, 1000))
			wantTick(t, own, api.OK)
			for n := range 1000 {
				wantSpend(t, own, 0, 1, api.OK)
				wantLeft(t, own, 0, 1000+i-n-1)
				wantFound(t, own, tenant("a1", "key", 1000), 1)
			}
			wantLeft(t, own, 1, 1000)
		})
	}
	all.Wait()
}
