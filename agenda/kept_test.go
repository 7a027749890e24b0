package agenda

import (
	"math/rand"
	"testing"

	"sublet/api"
)

// What has come out would show in no answer, if it stayed, but it would be kept
// for nothing; and that the items are a heap would show in none either.
func TestWhatIsInIsAHeapAndWhatIsOutIsNotKept(t *testing.T) {
	dice := rand.New(rand.NewSource(130))
	a := New()
	for range 5000 {
		kind, key := api.ItemKind(1+dice.Intn(4)), 1+dice.Intn(12)
		switch dice.Intn(6) {
		case 0:
			a.Take(dice.Intn(40))
		case 1:
			a.Drop(kind, key)
		default:
			a.Put(api.Item{Due: dice.Intn(40), Kind: kind, Key: key})
		}
		for k, x := range a.items.list {
			if out := x == (api.Item{}); out != (k >= a.Len()) {
				t.Fatalf("of %d items, %v stands at %d", a.Len(), x, k)
			}
			if up := (k - 1) / 2; k > 0 && k < a.Len() && a.items.Less(k, up) {
				t.Fatalf("%v stands below %v", x, a.items.list[up])
			}
		}
	}
}
