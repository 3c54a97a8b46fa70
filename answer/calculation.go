package answer

import (
	"cmp"
	"slices"

	"justiciar/api"
	"justiciar/image"
	"justiciar/list"
	"justiciar/object"
	"justiciar/resolve"
)

// How much there may be.
const (
	maxImages   = 20
	maxCombined = 50000 // combinations of rows in one call
)

// calculation is what one call of a function calculates with.
type calculation struct {
	c        *api.Catalog
	binds    []api.Bind
	images   []api.Image
	views    map[[2]string]*api.Query // those that were read, resolved
	combined int                      // how many combinations of rows all queries have had
}

// begin returns what to calculate with, unless resolving has found a fault, or the images are not valid. ErrArg as a fault may mean that the catalog is not: then images cannot be held against it.
func begin(c *api.Catalog, binds []api.Bind, l []api.Image, f api.Fault) *calculation {
	want(f.Code != api.ErrArg && areImages(c, l), api.ErrArg)
	wantOK(f.Code)
	return &calculation{c: c, binds: binds, images: l, views: map[[2]string]*api.Query{}}
}

// beginChange returns what to calculate with, and a change that was resolved, if it is of one of some kinds.
func beginChange(c *api.Catalog, user string, binds []api.Bind, x api.Change, l []api.Image, ops ...api.ChangeOp) (*calculation, *api.Change) {
	found, f := resolve.Change(*c, user, binds, x)
	k := begin(c, binds, l, f)
	want(slices.Contains(ops, found.Op), api.ErrState)
	return k, &found
}

func areImages(c *api.Catalog, l []api.Image) bool {
	return 1 <= len(l) && len(l) <= maxImages &&
		list.Rise(l, func(a, b api.Image) int { return cmp.Compare(a.Time, b.Time) }) &&
		list.Each(l, func(m *api.Image) bool { return image.Valid(c, m) })
}

func (k *calculation) present() *api.Image { return &k.images[len(k.images)-1] }

// asOf returns the image as of a time.
func (k *calculation) asOf(time api.Value) *api.Image {
	want(time.Kind == api.VInt && 0 <= time.N && time.N <= k.present().Time, api.ErrRange)
	for i := len(k.images) - 1; i >= 0; i-- {
		if k.images[i].Time <= time.N {
			return &k.images[i]
		}
	}
	panic(api.ErrOld)
}

// view returns the query of a view, resolved. It is resolved once, as queries within others may read it often.
func (k *calculation) view(o *api.Object) *api.Query {
	key := object.Key(o)
	if k.views[key] == nil {
		q, _, f := resolve.Query(*k.c, o.Owner, nil, o.View[0])
		wantOK(f.Code)
		k.views[key] = &q
	}
	return k.views[key]
}

// count counts the combinations of rows of sources, whether they are looked at or not.
func (k *calculation) count(sources [][]api.Held) {
	many := 1
	for _, rows := range sources {
		many *= len(rows)
	}
	k.combined += many
	want(k.combined <= maxCombined, api.ErrLimit)
}
