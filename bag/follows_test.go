package bag

import (
	"cmp"
	"math"
	"math/rand"
	"strconv"
	"testing"
)

// P12.4

// TestEveryRowOfTable: all rows of up to six puts and deletes of three keys.
func TestEveryRowOfTable(t *testing.T) {
	for n := range 7 {
		rows := 1
		for range n {
			rows *= 6
		}
		for row := range rows {
			var x Table[int, int]
			var m modelTable[int, int]
			rest := row
			for step := range n {
				k := rest % 3
				if rest/3%2 == 0 {
					puts(t, &x, &m, k, step)
				} else {
					dels(t, &x, &m, k)
				}
				rest /= 6
				if step == n-1 {
					holds(t, &x, &m, -1, 0, 1, 2, 3)
				}
			}
		}
	}
}

// TestEveryRowOfQueue: all rows of up to six pushes, with different mosts, and pops.
func TestEveryRowOfQueue(t *testing.T) {
	mosts := []int{-1, 0, 1, 2, 3, math.MaxInt}
	ways := len(mosts) + 1
	for n := range 7 {
		rows := 1
		for range n {
			rows *= ways
		}
		for row := range rows {
			var q Queue[int]
			var m modelQueue[int]
			rest := row
			for step := range n {
				if way := rest % ways; way < len(mosts) {
					pushes(t, &q, &m, step+1, mosts[way])
				} else {
					pops(t, &q, &m)
				}
				rest /= ways
			}
			waits(t, &q, m.list())
		}
	}
}

// chanceTable does things of chance to a table.
func chanceTable[K cmp.Ordered](t *testing.T, c *rand.Rand, keys ...K) {
	t.Helper()
	for range 60 {
		var x Table[K, int]
		var m modelTable[K, int]
		puttish := 1 + c.Intn(9)
		for range 120 {
			k := keys[c.Intn(len(keys))]
			switch {
			case c.Intn(10) < puttish:
				puts(t, &x, &m, k, c.Intn(3))
			default:
				dels(t, &x, &m, k)
			}
			holds(t, &x, &m, k, keys[c.Intn(len(keys))])
		}
		holds(t, &x, &m, keys...)
	}
}

func TestTableAgainstModel(t *testing.T) {
	c := rand.New(rand.NewSource(122))
	var numbers []int
	var texts []string
	for i := range 40 {
		numbers = append(numbers, i*i-300)
		texts = append(texts, strconv.Itoa(i))
	}
	chanceTable(t, c, numbers...)
	chanceTable(t, c, texts...)
	chanceTable[ownNumber](t, c, 5, -5, 0, 127, -128, 1)
	chanceTable[ownText](t, c, "dtn://a/", "dtn://a/b", "", "dtn:", "ipn:1.1")
	chanceTable(t, c, math.NaN(), 0, 1, -1, math.Inf(1), math.Inf(-1))
	chanceTable[uint64](t, c, math.MaxUint64, math.MaxInt64, 0, 1<<63)
}

func TestQueueAgainstModel(t *testing.T) {
	c := rand.New(rand.NewSource(123))
	type thing struct {
		n    int
		name string
	}
	longest := 0
	for range 300 {
		var q Queue[thing]
		var m modelQueue[thing]
		pushish := 1 + c.Intn(9)
		for i := range 300 {
			switch {
			case c.Intn(10) < pushish:
				pushes(t, &q, &m, thing{i, strconv.Itoa(c.Intn(5))}, c.Intn(len(m.list())+40)-2)
			default:
				pops(t, &q, &m)
			}
			if q.Len() != len(m.list()) {
				t.Fatalf("Len() = %d, not %d", q.Len(), len(m.list()))
			}
			if c.Intn(20) == 0 {
				waits(t, &q, m.list())
			}
			longest = max(longest, q.Len())
		}
		waits(t, &q, m.list())
	}
	if longest < 100 {
		t.Errorf("no queue had more than %d things", longest)
	}
}
