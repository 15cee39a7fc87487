// Package mosaic: pictures as PNG files, and back: see DOC.md.
package mosaic

import (
	"mosaic/api"
	"mosaic/fault"
	"mosaic/file"
	"mosaic/pack"
	"mosaic/picture"
	"mosaic/sums"
	"mosaic/unpack"
	"mosaic/wrap"
)

// Check tells the fault of a picture (P3).
func Check(m api.Image) api.Errno { return picture.Check(m) }

// Crc is the check of some bytes (P4).
func Crc(b string) int { return sums.Crc(b) }

// Adler is the other check of some bytes (P4).
func Adler(b string) int { return sums.Adler(b) }

// Inflate unpacks bytes, up to a limit; how many of them it used (P5).
func Inflate(b string, limit int) (out string, used int, e api.Errno) {
	defer func() {
		// Giving up left out and used unset: they are 0 beside an error.
		e = fault.Number(recover(), api.ErrDeflate)
	}()
	out, used = unpack.Bytes(b, limit)
	return out, used, api.OK
}

// Deflate packs bytes (P6).
func Deflate(b string, level int) (string, api.Errno) {
	if !pack.HasLevel(level) {
		return "", api.ErrSetting
	}
	return pack.Bytes(b, level), api.OK
}

// Unwrap unpacks wrapped bytes, up to a limit (P7).
func Unwrap(b string, limit int) (out string, e api.Errno) {
	defer func() {
		e = fault.Number(recover(), api.ErrDeflate)
	}()
	out = wrap.Open(b, limit)
	return out, api.OK
}

// Wrap packs bytes and wraps them (P8).
func Wrap(b string, level int) (string, api.Errno) {
	if !pack.HasLevel(level) {
		return "", api.ErrSetting
	}
	return wrap.Bytes(b, level), api.OK
}

// Decode reads a picture, of at most so many bytes of rows (P9).
func Decode(b string, limit int) (m api.Image, e api.Errno) {
	defer func() {
		e = fault.Number(recover(), api.ErrChunk)
	}()
	return file.Read(b, limit, Unwrap), api.OK
}

// Encode writes a picture (P10).
func Encode(m api.Image, s api.Setting) (string, api.Errno) {
	if e := picture.Check(m); e != api.OK {
		return "", e
	}
	if !file.SettingFits(s) {
		return "", api.ErrSetting
	}
	return file.Write(m, s), api.OK
}
